/- Texts. Conditions: as said. -/
import Derived.Test.YtahkcemdbfjilaaGreatDoorFj00
import Derived.Test.YtahkcemdbfjilaaGreatDoorFj15
set_option linter.all false
set_option maxRecDepth 100000
set_option maxHeartbeats 32000000
namespace Go.Proofs.YtahkcemdbfjilaaGreatDoor
open Go.RowKit Go.Maps
def StrR (B:Nat) (w:World) (v:Value) (xs:List By):Prop:=w.ownsRow B 9 1 v xs.length (xs.map kS)
def StrR.nil (B:Nat) (w:World):StrR B w (.slice none 0 0) []:=World.ownsRow_nil _ _ _ _
def StrR.form {B:Nat} {w:World} {v:Value} {xs:List By} (h:StrR B w v xs):∃A c,v=.slice A xs.length c:=by
 rcases h.2 with ⟨h1,h2⟩ | ⟨g,c,cur,h1,_⟩
 . exact ⟨none,0,by rw [h1,h2]⟩
 exact ⟨some ⟨g,0,none⟩,c,h1⟩
def Kq (w w':World):Prop:=∀(j:Nat) (cs:Array Value) (t:TypeId) (q:Nat × Nat),w.heap[j]? = some (Obj.cells cs t q)->w'.heap[j]? = some (Obj.cells cs t q)
def Kq.of_below {w w':World} (h:qW w w'):Kq w w':=fun j _ _ _ ho=>(h.block j (Array.getElem?_eq_some_iff.1 ho).1).trans ho
def Kq.of_own {w w':World} {row:Option Nat} (hg:w.grownBy w' row) (hr:∀r,row=some r->∃o:Obj,w.heap[r]? = some o/\o.isCells=false):Kq w w':=fun j cs t q ho=>by
 refine (hg.block j (Array.getElem?_eq_some_iff.1 ho).1 (fun e=>?_)).trans ho;obtain ⟨o,h1,h2⟩:=hr j e.symm;rw [ho] at h1;injection h1 with h1;rw [<-h1] at h2;cases h2
def Has.kq {w w':World} {g:Nat} {t:TypeId} {cs:Array Value} (h:Has w g t cs) (k:Kq w w'):Has w' g t cs:=k g cs t _ h
def oW {B:Nat} {w w':World} {e:TypeId} {s n:Nat} {v:Value} {xs:List Value} (h:w.ownsRow B e s v n xs) (k:Kq w w'):w'.ownsRow B e s v n xs:=row_of h fun g hg=>by
 obtain ⟨cur,hc⟩:=bI h hg;exact (k g cur _ _ hc).trans hc.symm
def nF (ps:List (At × Value)):List Value:=ps.flatMap fun y=>(recN y.1.1 y.1.2 y.2).toList
def Fe (ps:List (At × Value)) (y:At × Value):nF (ps++[y])=nF ps++(recN y.1.1 y.1.2 y.2).toList:=by simp [nF]
structure jW (B:Nat) (w:World) (v:Value) (ps:List (At × Value)):Prop where
 own:w.ownsRow B 58 27 v ps.length (nF ps)
 dg:∀y∈ps,Dgs B w y.2 (hasN y.1.2)
def cO (B:Nat) (w:World) (v:Value) (l:Tr):Prop:=∃ps:List (At × Value),ps.map (·.1)=l/\jW B w v ps
def cO.nil (B:Nat) (w:World):cO B w (.slice none 0 0) []:=⟨[],rfl,World.ownsRow_nil _ _ _ _,fun y h=>by cases h⟩
def Dgs.kq {B:Nat} {w w':World} {v:Value} {hs:List (List UInt8)} (h:Dgs B w v hs) (k:Kq w w'):Dgs B w' v hs:=⟨oW h.own k,h.len⟩
def cO.kq {B:Nat} {w w':World} {v:Value} {l:Tr} (h:cO B w v l) (k:Kq w w'):cO B w' v l:=by
 obtain ⟨ps,h1,h2,h3⟩:=h;exact ⟨ps,h1,oW h2 k,fun y hy=>(h3 y hy).kq k⟩
def cO.form {B:Nat} {w:World} {v:Value} {l:Tr} (h:cO B w v l):∃A c,v=.slice A l.length c:=by
 obtain ⟨ps,h1,h2,_⟩:=h;have hl:ps.length=l.length:=by rw [<-h1,List.length_map]
 rw [hl] at h2;rcases h2.2 with ⟨e1,e2⟩ | ⟨g,c,cur,e1,_⟩
 . exact ⟨none,0,by rw [e1,e2]⟩
 exact ⟨some ⟨g,0,none⟩,c,e1⟩
def StrR.kq {B:Nat} {w w':World} {v:Value} {xs:List By} (h:StrR B w v xs) (k:Kq w w'):StrR B w' v xs:=oW h k
def StrR.mono {B B':Nat} {w:World} {v:Value} {xs:List By} (h:StrR B w v xs) (hb:B'<=B):StrR B' w v xs:=by
 refine ⟨h.1,?_⟩;rcases h.2 with h1 | ⟨g,c,cur,h1,h2,h3⟩
 . exact .inl h1
 exact .inr ⟨g,c,cur,h1,Nat.le_trans hb h2,h3⟩
def cO.mono {B B':Nat} {w:World} {v:Value} {l:Tr} (h:cO B w v l) (hb:B'<=B):cO B' w v l:=by
 obtain ⟨ps,h1,h2,h3⟩:=h;refine ⟨ps,h1,⟨h2.1,?_⟩,fun y hy=>(h3 y hy).mono hb⟩;rcases h2.2 with h4 | ⟨g,c,cur,h4,h5,h6⟩
 . exact .inl h4
 exact .inr ⟨g,c,cur,h4,Nat.le_trans hb h5,h6⟩
def fB {w:World} {B B':Nat} {e e':TypeId} {s s' n n':Nat} {u v:Value} {xs ys:List Value} (h:w.ownsRow B e s u n xs) (k:w.ownsRow B' e' s' v n' ys) (j3:e≠e'):∀b,u.ownBlock=some b->v.ownBlock≠some b:=by
 intro b h1 h2;obtain ⟨c1,k1⟩:=bI h h1;obtain ⟨c2,k2⟩:=bI k h2;rw [k1] at k2;injection k2 with k2;injection k2 with _ k2;exact j3 k2
def wU {w:World} {g g':Nat} {t t':TypeId} {cs cs':Array Value} (h:Has w g t cs) (k:Has w g' t' cs') (j3:t≠t'):g≠g':=by
 rintro rfl;unfold Has at h k;rw [h] at k;injection k with k;injection k with _ k;exact j3 k
def bN {w:World} {B:Nat} {e t:TypeId} {s n g:Nat} {u:Value} {xs:List Value} {cs:Array Value} (h:w.ownsRow B e s u n xs) (k:Has w g t cs) (j3:e≠t):u.ownBlock≠some g:=by
 intro h1;obtain ⟨c1,k1⟩:=bI h h1;unfold Has at k;rw [k1] at k;injection k with k;injection k with _ k;exact j3 k
def lsOf (f:jD) (k:Nat):List By:=if k=1 then f.temps else if k=2 then f.ign else if k=3 then f.bad else []
structure WSt (w0 W:World) (B b5 b6 b9 G6:Nat) (v:Value) (it:Tr) (ls:Nat->List By) (over:By) (vi:Value) (vs:Nat->Value):Prop where
 f:Has W b9 39 #[vi,vs 1,vs 2,vs 3]
 o:Has W G6 9 #[kS over]
 l:Has W b5 30 #[v]
 r:Has W b6 39 #[.slice none 0 0,.slice none 0 0,.slice none 0 0,.slice none 0 0]
 items:cO B W vi it
 str:∀k,1<=k->k<=3->StrR B W (vs k) (ls k)
 ap:∀j k,1<=j->j<=3->1<=k->k<=3->j≠k->∀b,(vs j).ownBlock=some b->(vs k).ownBlock≠some b
 bl:qW w0 W
 l5:w0.heap.size<=b5/\b5 < B
 l6:b6≠b9
 l9:w0.heap.size<=b9/\b9 < B
 l10:w0.heap.size<=G6/\G6 < B
 hB:B<=W.heap.size
section
variable {w0 W:World} {B b5 b6 b9 G6:Nat} {v:Value} {it:Tr} {ls:Nat->List By} {over:By} {vi:Value} {vs:Nat->Value}
theorem WSt.kq (h:WSt w0 W B b5 b6 b9 G6 v it ls over vi vs) {W':World} (k:Kq W W') (hb:qW w0 W') (hs:W.heap.size<=W'.heap.size):WSt w0 W' B b5 b6 b9 G6 v it ls over vi vs where
 f:=h.f.kq k
 o:=h.o.kq k
 l:=h.l.kq k
 r:=h.r.kq k
 items:=h.items.kq k
 str j h1 h2:=(h.str j h1 h2).kq k
 ap:=h.ap
 bl:=hb
 l5:=h.l5
 l6:=h.l6
 l9:=h.l9
 l10:=h.l10
 hB:=Nat.le_trans h.hB hs
theorem WSt.on (h:WSt w0 W B b5 b6 b9 G6 v it ls over vi vs) {W':World} (hb:qW W W'):WSt w0 W' B b5 b6 b9 G6 v it ls over vi vs :=
 h.kq (Kq.of_below hb) (h.bl.trans (hb.mono h.bl.size)) hb.size
theorem WSt.forms (h:WSt w0 W B b5 b6 b9 G6 v it ls over vi vs):(∃A c,vi=.slice A it.length c)/\∀k,1<=k->k<=3->∃A c,vs k=.slice A (ls k).length c :=
 ⟨h.items.form,fun k h1 h2=>(h.str k h1 h2).form⟩
theorem WSt.ne910 (h:WSt w0 W B b5 b6 b9 G6 v it ls over vi vs):b9≠G6:=by
 rintro rfl;have h1:=h.f;have h2:=h.o;unfold Has at h1 h2;rw [h1] at h2;injection h2 with h2;injection h2 with _ h2;revert h2;decide
theorem WSt.ne59 (h:WSt w0 W B b5 b6 b9 G6 v it ls over vi vs):b5≠b9:=by
 rintro rfl;have h1:=h.f;have h2:=h.l;unfold Has at h1 h2;rw [h1] at h2;injection h2 with h2;injection h2 with _ h2;revert h2;decide
theorem WSt.ne510 (h:WSt w0 W B b5 b6 b9 G6 v it ls over vi vs):b5≠G6:=by
 rintro rfl;have h1:=h.o;have h2:=h.l;unfold Has at h1 h2;rw [h1] at h2;injection h2 with h2;injection h2 with _ h2;revert h2;decide
theorem WSt.ne610 (h:WSt w0 W B b5 b6 b9 G6 v it ls over vi vs):b6≠G6:=by
 rintro rfl;have h1:=h.o;have h2:=h.r;unfold Has at h1 h2;rw [h1] at h2;injection h2 with h2;injection h2 with _ h2;revert h2;decide
theorem WSt.store (h:WSt w0 W B b5 b6 b9 G6 v it ls over vi vs) {W2:World} (i:Nat) (u:Value) {it':Tr} {ls':Nat->List By} {vi':Value} {vs':Nat->Value} (hf:Has W2 b9 39 #[vi,vs 1,vs 2,vs 3]) (ho:Has W2 G6 9 #[kS over]) (hl:Has W2 b5 30 #[v]) (hr:Has W2 b6 39 #[.slice none 0 0,.slice none 0 0,.slice none 0 0,.slice none 0 0])
 (hc:(#[vi,vs 1,vs 2,vs 3]:Array Value).setIfInBounds i u=#[vi',vs' 1,vs' 2,vs' 3]) (hi:cO B W2 vi' it') (hs:∀k,1<=k->k<=3->StrR B W2 (vs' k) (ls' k))
 (ha:∀j k,1<=j->j<=3->1<=k->k<=3->j≠k->∀b,(vs' j).ownBlock=some b->(vs' k).ownBlock≠some b) (hb:qW w0 W2) (p9:W.heap.size<=W2.heap.size) :
 WSt w0 (W2.setCell ⟨b9,i,none⟩ u) B b5 b6 b9 G6 v it' ls' over vi' vs' where
 f:=by have:=hf.put i u;rw [hc] at this;exact this
 o:=ho.other (fun e=>h.ne910 e.symm) _
 l:=hl.other h.ne59 _
 r:=hr.other h.l6 _
 items:=by
  obtain ⟨ps,h1,h2,h3⟩:=hi;refine ⟨ps,h1,row_of h2 fun b hb=>Below.heap_setCell W2 ⟨b9,i,none⟩ u b ?_,fun y hy=>⟨row_of (h3 y hy).own fun b hb=>Below.heap_setCell W2 ⟨b9,i,none⟩ u b ?_,(h3 y hy).len⟩⟩
  . rintro rfl;exact bN h2 hf (by decide) hb
  rintro rfl;exact bN (h3 y hy).own hf (by decide) hb
 str k h1 h2:=row_of (hs k h1 h2) fun b hb=>Below.heap_setCell W2 ⟨b9,i,none⟩ u b (by rintro rfl;exact bN (hs k h1 h2) hf (by decide) hb)
 ap:=ha
 bl:=hb.setCell (p:=⟨b9,i,none⟩) h.l9.1 _
 l5:=h.l5
 l6:=h.l6
 l9:=h.l9
 l10:=h.l10
 hB:=by have:=h.hB;simp;omega
theorem WSt.setO (h:WSt w0 W B b5 b6 b9 G6 v it ls over vi vs) (p:By):WSt w0 (W.setCell ⟨G6,0,none⟩ (kS p)) B b5 b6 b9 G6 v it ls p vi vs where
 f:=h.f.other h.ne910 _
 o:=h.o.put 0 _
 l:=h.l.other h.ne510 _
 r:=h.r.other h.ne610 _
 items:=by
  obtain ⟨ps,h1,h2,h3⟩:=h.items;refine ⟨ps,h1,row_of h2 fun b hb=>Below.heap_setCell W ⟨G6,0,none⟩ (kS p) b ?_,fun y hy=>⟨row_of (h3 y hy).own fun b hb=>Below.heap_setCell W ⟨G6,0,none⟩ (kS p) b ?_,(h3 y hy).len⟩⟩
  . rintro rfl;exact bN h2 h.o (by decide) hb
  rintro rfl;exact bN (h3 y hy).own h.o (by decide) hb
 str k h1 h2:=row_of (h.str k h1 h2) fun b hb=>Below.heap_setCell W ⟨G6,0,none⟩ (kS p) b (by
  rintro rfl;have:=(World.ownsRow.lt (h.str k h1 h2) b hb).1;have:=h.l10.2;omega)
 ap:=h.ap
 bl:=h.bl.setCell (p:=⟨G6,0,none⟩) h.l10.1 _
 l5:=h.l5
 l6:=h.l6
 l9:=h.l9
 l10:=h.l10
 hB:=by have:=h.hB;simpa using this
def updV {α:Type} (f:Nat->α) (k:Nat) (a:α):Nat->α:=fun j=>if j=k then a else f j
theorem upd_same {α:Type} (f:Nat->α) (k:Nat) (a:α):updV f k a k=a:=if_pos rfl
theorem dM {α:Type} (f:Nat->α) {j k:Nat} (a:α) (h:j≠k):updV f k a j=f j:=if_neg h
theorem Aj (vi:Value) (vs:Nat->Value) {k:Nat} (h1:1<=k) (h2:k<=3) (u:Value):(#[vi,vs 1,vs 2,vs 3]:Array Value).setIfInBounds k u=#[vi,updV vs k u 1,updV vs k u 2,updV vs k u 3]:=by
 rcases (by omega:k=1∨k=2∨k=3) with rfl | rfl | rfl<;>rfl
theorem WSt.app (h:WSt w0 W B b5 b6 b9 G6 v it ls over vi vs) {k:Nat} (h1:1<=k) (h2:k<=3) (p:By) (hn:(ls k).length<=100000) :
 ∃A c W2,(Builtin.append_ #[34,34] 34 #[vs k,.slice (some ⟨W.heap.size,0,none⟩) 1 1]).run Tryz.prog (W.alloc (.cells #[kS p] 9))=.ok (.slice A ((ls k).length+1) c) W2 /\
  Has W2 b9 39 #[vi,vs 1,vs 2,vs 3]/\Has W2 G6 9 #[kS over]/\KeepsFrom B W W2/\bK W W2 /\
  WSt w0 (W2.setCell ⟨b9,k,none⟩ (.slice A ((ls k).length+1) c)) B b5 b6 b9 G6 v it (updV ls k (ls k++[p])) over vi (updV vs k (.slice A ((ls k).length+1) c)):=by
 obtain ⟨i0,hi,o7,g8,j5⟩:=info_parts jC;have P5:qW W (W.alloc (.cells #[kS p] 9)):=qB.alloc qN _;have IO:StrR B (W.alloc (.cells #[kS p] 9)) (vs k) (ls k):=(h.str k h1 h2).kq (Kq.of_below P5);have hB:=h.hB;obtain ⟨v',W2,hr,ho,hg,_,hv⟩:=run_append_own_at (P:=Tryz.prog) (W.alloc (.cells #[kS p] 9)) B 34 34 9 i0 (.string ⟨#[]⟩) 1 16 Tryz.underlying34 hi o7 g8 j5 rfl (by decide) (vs k) (ls k).length ((ls k).map kS) IO ⟨W.heap.size,0,none⟩ 1 1 [kS p] rfl
  (fun j u hj=>by rw [bY,Nat.zero_add,(Has.fresh W 9 #[kS p]).at_ j,<-Array.getElem?_toList];exact hj) (wS p) (by unfold maxLen;omega) (by omega) (by simp;omega)
 have ny:StrR B W2 v' (ls k++[p]):=by unfold StrR;rw [List.length_append,List.map_append];exact ho
 obtain ⟨A,c,rfl⟩:=ny.form;have f8:(ls k++[p]).length=(ls k).length+1:=by simp
 rw [f8] at hr ny hv;have p6:∀g,g < W.heap.size->(vs k).ownBlock≠some g->W2.heap[g]? = W.heap[g]?:=fun g T9 hn=>(hg.block g (by simp;omega) (fun e=>hn e.symm)).trans (P5.block g T9)
 have mj:W.heap.size<=W2.heap.size:=Nat.le_trans P5.size hg.size;have keepH:∀{g:Nat} {t:TypeId} {cs:Array Value},Has W g t cs->t≠9->Has W2 g t cs:=fun hh ht=>(p6 _ hh.inside (bN (h.str k h1 h2) hh (fun e=>ht e.symm))).trans hh
 have o2:Has W2 G6 9 #[kS over]:=(p6 G6 h.o.inside (fun e=>by have:=(World.ownsRow.lt (h.str k h1 h2) G6 e).1;have:=h.l10.2;omega)).trans h.o;have f2:=keepH h.f (by decide);have l2:=keepH h.l (by decide);have r2:=keepH h.r (by decide);have i2:cO B W2 vi it:=by
  obtain ⟨ps,e1,e2,e3⟩:=h.items;refine ⟨ps,e1,row_of e2 fun b hb=>p6 b (World.ownsRow.lt e2 b hb).2 (fB e2 (h.str k h1 h2) (by decide) b hb),fun y hy=>⟨row_of (e3 y hy).own fun b hb=>p6 b (World.ownsRow.lt (e3 y hy).own b hb).2 (fB (e3 y hy).own (h.str k h1 h2) (by decide) b hb),(e3 y hy).len⟩⟩
 have hs:∀j,1<=j->j<=3->StrR B W2 (updV vs k (.slice A ((ls k).length+1) c) j) (updV ls k (ls k++[p]) j):=fun j j1 j2=>by
  by_cases e:j=k
  . subst e;rw [upd_same,upd_same];exact ny
  rw [dM _ _ e,dM _ _ e];exact row_of (h.str j j1 j2) fun b hb=>p6 b (World.ownsRow.lt (h.str j j1 j2) b hb).2 (h.ap j k j1 j2 h1 h2 e b hb)
 have ha:∀i j,1<=i->i<=3->1<=j->j<=3->i≠j->∀b,(updV vs k (.slice A ((ls k).length+1) c) i).ownBlock=some b->(updV vs k (.slice A ((ls k).length+1) c) j).ownBlock≠some b:=by
  have hx:∀j,1<=j->j<=3->j≠k->∀b,(vs j).ownBlock=some b->(Value.slice A ((ls k).length+1) c).ownBlock≠some b:=fun j j1 j2 e b hb a9=>by
   rcases hv with k1 | k1
   . rw [k1] at a9;exact h.ap j k j1 j2 h1 h2 e b hb a9
   rw [k1] at a9;injection a9 with a9;have:=(World.ownsRow.lt (h.str j j1 j2) b hb).2;simp at a9;omega
  intro i j i1 i2 j1 j2 j3 b hb a9;by_cases e:i=k
  . subst e
    rw [upd_same] at hb;rw [dM _ _ (fun e=>j3 e.symm)] at a9;exact hx j j1 j2 (fun e=>j3 e.symm) b a9 hb
  rw [dM _ _ e] at hb;by_cases e2:j=k
  . subst e2
    rw [upd_same] at a9;exact hx i i1 i2 e b hb a9
  rw [dM _ _ e2] at a9;exact h.ap i j i1 i2 j1 j2 j3 b hb a9
 have EK:qW w0 W2:=(h.bl.alloc h.bl.size _).grown hg (by have:=h.bl.size;simp;omega) (fun g T9=>by have:=(World.ownsRow.lt IO g T9).1;have:=h.l9;omega);refine ⟨A,c,W2,hr,f2,o2,⟨mj,fun j o hj AX hc=>?_⟩,fun j cs q hj=>?_,h.store k _ f2 o2 l2 r2 (Aj vi vs h1 h2 _) i2 hs ha EK mj⟩
 .
  refine (p6 j (Array.getElem?_eq_some_iff.1 AX).1 (fun e=>?_)).trans AX;obtain ⟨cur,s5⟩:=bI (h.str k h1 h2) e;rw [AX] at s5;injection s5 with s5;rw [s5] at hc;cases hc
 refine (p6 j (Array.getElem?_eq_some_iff.1 hj).1 (fun e=>?_)).trans hj;obtain ⟨cur,s5⟩:=bI (h.str k h1 h2) e;rw [hj] at s5;injection s5 with s5;injection s5 with _ s5;revert s5;decide
end
def am:(Tryz.prog.info? 58).map (fun i=>(i.zero,i.size,i.bytes))=some (some (.agg qZ),27,184):=by kernel_rfl
def cT (p:By) (n:Nd) (bv:Value) (hb:bv.oneCell'=true):∀u∈(recN p n bv).toList,u.oneCell'=true:=by
 intro u hu;simp only [recN,recC,List.mem_cons,List.not_mem_nil,or_false] at hu;rcases hu with rfl | rfl | rfl | rfl | rfl | rfl | rfl | rfl | rfl | rfl | rfl | rfl | rfl | rfl | rfl | rfl | rfl | rfl | rfl | rfl | rfl | rfl | rfl | rfl | rfl | rfl | rfl<;>first | rfl | exact hb
def yP {B:Nat} {w:World} {v:Value} {hs:List (List UInt8)} (h:Dgs B w v hs):v.oneCell'=true:=by
 obtain ⟨A,c,rfl⟩:=h.form;rfl
def wO (w:World) (B:Nat) (v:Value) (ps:List (At × Value)) (h:jW B w v ps) (y:At × Value) (g:Nat) (hg:Has w g 58 (recN y.1.1 y.1.2 y.2)) (hd:Dgs B w y.2 (hasN y.1.2)) (hn:ps.length<=100000) (hB:B<=w.heap.size) (ty:TypeId) :
 ∃v' w',(Builtin.append_ #[37,37] ty #[v,.slice (some ⟨g,0,none⟩) 1 1]).run Tryz.prog w=.ok v' w'/\w'.ownsRow B 58 27 v' (ps++[y]).length (nF (ps++[y]))/\w.grownBy w' v.ownBlock/\(v'.ownBlock=v.ownBlock∨v'.ownBlock=some w.heap.size):=by
 obtain ⟨i0,hi,o7,g8,j5⟩:=info_parts am;obtain ⟨v',w',hr,ho,vn,_,hv⟩:=run_append_own_at (P:=Tryz.prog) w B 37 ty 58 i0 _ 27 184 Tryz.underlying37 hi o7 g8 j5 (by simp [Value.cells]) (by omega) v ps.length (nF ps) h.own ⟨g,0,none⟩ 1 1 (recN y.1.1 y.1.2 y.2).toList rfl
  (fun j u hj=>by
    rw [bY,Nat.zero_add,hg.at_ j];rw [<-Array.getElem?_toList];exact hj) (cT _ _ _ (yP hd)) (by unfold maxLen;omega) (by omega) hB
 refine ⟨v',w',hr,?_,vn,hv⟩;rw [Fe,List.length_append];exact ho
def rI (w:World) (cs:Array Value) (hs:cs.size=27) :
 (Instr.buildSlice 37 1 #[(0,Value.agg cs)]).run Tryz.prog w=.ok (.slice (some ⟨w.heap.size,0,none⟩) 1 1) (w.alloc (.cells cs 58)):=by
 have hI:(Tryz.prog.info? 58).map (fun i=>(i.size,i.zero))=some (27,some (.agg qZ)):=by kernel_rfl
 cases hie:Tryz.prog.info? 58 with
 | none=>rw [hie] at hI;cases hI
 | some ie =>
  rw [hie] at hI;simp only [Option.map_some,Option.some.injEq,Prod.mk.injEq] at hI;refine run_buildSlice (P:=Tryz.prog) w 37 58 1 _ _ ie _ Tryz.underlying37 hie hI.2 (by rw [hI.1];omega) (by rw [hI.1];omega) ?_;rw [hI.1];refine (Great.fill_whole (s:=27) (by omega) [Value.agg cs] _ (fun v hv=>?_) (by simp)).trans (by simp [Value.cells]);simp only [List.mem_singleton] at hv;subst hv;exact hs
def eF {ops:Array Oper} {o:Oper} {a:Act} {w:World} {K:Act->World->Prop} {Q:Exit->Act->World->Prop} {E:Prop} (hw:Region.wanted o (yielded ops a.tmps)=true)
 (y:Operand) (ho:o.op=.buildSlice 37 1 #[(0,y)]) (cs:Array Value) (hs:cs.size=27) (hx:a.eval y=.agg cs)
 (h:K (a.put o.dst (.slice (some ⟨w.heap.size,0,none⟩) 1 1)) (w.alloc (.cells cs 58))):if Region.wanted o (yielded ops a.tmps)=true then Oper.wp Tryz.prog o a w K Q else E:=by
 rw [if_pos hw];unfold Oper.wp execOp;simp only [ho,Sem.run_bind,List.map_toArray,List.map_cons,List.map_nil,hx,rI w cs hs,Result.andThen_ok];exact h
section
variable {w0 W:World} {B b5 b6 b9 G6:Nat} {v:Value} {it:Tr} {ls:Nat->List By} {over:By} {vi:Value} {vs:Nat->Value}
theorem WSt.appI (h:WSt w0 W B b5 b6 b9 G6 v it ls over vi vs) (x:At) (bv:Value) (hd:Dgs B W bv (hasN x.2)) (hn:it.length<=100000) :
 ∃A c W2,(Builtin.append_ #[37,37] 37 #[vi,.slice (some ⟨W.heap.size,0,none⟩) 1 1]).run Tryz.prog (W.alloc (.cells (recN x.1 x.2 bv) 58))=.ok (.slice A (it.length+1) c) W2 /\
  Has W2 b9 39 #[vi,vs 1,vs 2,vs 3]/\KeepsFrom B W W2/\bK W W2/\(∀(g:Nat) (t:TypeId) (cs:Array Value),Has W g t cs->t≠58->Has W2 g t cs) /\
  WSt w0 (W2.setCell ⟨b9,0,none⟩ (.slice A (it.length+1) c)) B b5 b6 b9 G6 v (it++[x]) ls over (.slice A (it.length+1) c) vs:=by
 obtain ⟨ps,za,hP⟩:=h.items;have IU:ps.length=it.length:=by rw [<-za,List.length_map]
 have P5:qW W (W.alloc (.cells (recN x.1 x.2 bv) 58)):=qB.alloc qN _;have WH:jW B (W.alloc (.cells (recN x.1 x.2 bv) 58)) vi ps:=⟨oW hP.own (Kq.of_below P5),fun y hy=>(hP.dg y hy).kq (Kq.of_below P5)⟩;have hB:=h.hB;obtain ⟨v',W2,hr,ho,hg,hv⟩:=wO (W.alloc (.cells (recN x.1 x.2 bv) 58)) B vi ps WH (x,bv) W.heap.size (Has.fresh _ _ _) (hd.kq (Kq.of_below P5)) (by omega) (by simp;omega) 37;have p6:∀g,g < W.heap.size->vi.ownBlock≠some g->W2.heap[g]? = W.heap[g]?:=fun g T9 hn=>(hg.block g (by simp;omega) (fun e=>hn e.symm)).trans (P5.block g T9)
 have mj:W.heap.size<=W2.heap.size:=Nat.le_trans P5.size hg.size;have keepH:∀{g:Nat} {t:TypeId} {cs:Array Value},Has W g t cs->t≠58->Has W2 g t cs:=fun hh ht=>(p6 _ hh.inside (bN hP.own hh (fun e=>ht e.symm))).trans hh
 have dgk:∀(u:Value) (hs:List (List UInt8)),Dgs B W u hs->Dgs B W2 u hs:=fun u hs hu=>⟨row_of hu.own fun b hb=>p6 b (World.ownsRow.lt hu.own b hb).2 (fB hu.own hP.own (by decide) b hb),hu.len⟩
 have i2:cO B W2 v' (it++[x]):=by
  refine ⟨ps++[(x,bv)],by rw [List.map_append,za];rfl,ho,fun y hy=>?_⟩;rcases List.mem_append.1 hy with k | k
  . exact dgk _ _ (hP.dg y k)
  rw [List.mem_singleton] at k;rw [k];exact dgk _ _ hd
 obtain ⟨A,c,rfl⟩:=i2.form;have f8:(it++[x]).length=it.length+1:=by simp
 rw [f8] at hr i2;have f2:=keepH h.f (by decide);have o2:=keepH h.o (by decide);have l2:=keepH h.l (by decide);have r2:=keepH h.r (by decide);have hs:∀j,1<=j->j<=3->StrR B W2 (vs j) (ls j):=fun j j1 j2=>row_of (h.str j j1 j2) fun b hb=>p6 b (World.ownsRow.lt (h.str j j1 j2) b hb).2 (fB (h.str j j1 j2) hP.own (by decide) b hb)
 have EK:qW w0 W2:=(h.bl.alloc h.bl.size _).grown hg (by have:=h.bl.size;simp;omega) (fun g T9=>by have:=(World.ownsRow.lt hP.own g T9).1;have:=h.l9;omega);refine ⟨A,c,W2,hr,f2,⟨mj,fun j o hj AX hc=>?_⟩,fun j cs q hj=>?_,fun _ _ _ hh ht=>keepH hh ht,h.store 0 _ f2 o2 l2 r2 rfl i2 hs h.ap EK mj⟩
 .
  refine (p6 j (Array.getElem?_eq_some_iff.1 AX).1 (fun e=>?_)).trans AX;obtain ⟨cur,s5⟩:=bI hP.own e;rw [AX] at s5;injection s5 with s5;rw [s5] at hc;cases hc
 refine (p6 j (Array.getElem?_eq_some_iff.1 hj).1 (fun e=>?_)).trans hj;obtain ⟨cur,s5⟩:=bI hP.own e;rw [hj] at s5;injection s5 with s5;injection s5 with _ s5;revert s5;decide
end
def No (it:Tr) (a b c:List By) (q:By):lsOf ⟨it,a++[q],b,c⟩=updV (lsOf ⟨it,a,b,c⟩) 1 (lsOf ⟨it,a,b,c⟩ 1++[q]):=by
 funext j
 by_cases h:j=1
 . subst h;rfl
 unfold updV;rw [if_neg h];unfold lsOf;simp [h]
def On (it:Tr) (a b c:List By) (q:By):lsOf ⟨it,a,b++[q],c⟩=updV (lsOf ⟨it,a,b,c⟩) 2 (lsOf ⟨it,a,b,c⟩ 2++[q]):=by
 funext j
 by_cases h:j=2
 . subst h;rfl
 unfold updV;rw [if_neg h];unfold lsOf;simp [h]
def Rm (it:Tr) (a b c:List By) (q:By):lsOf ⟨it,a,b,c++[q]⟩=updV (lsOf ⟨it,a,b,c⟩) 3 (lsOf ⟨it,a,b,c⟩ 3++[q]):=by
 funext j
 by_cases h:j=3
 . subst h;rfl
 unfold updV;rw [if_neg h];unfold lsOf;simp [h]
def mD (f:jD):Nat:=f.items.length+f.temps.length+f.ign.length+f.bad.length
def Nh (ig:By->Bool) (s:jD × By) (x:By × Nd):mD (stepW ig s x).1<=mD s.1+1:=by
 unfold stepW;split
 . omega
 split
 . unfold mD;simp;omega
 split
 . unfold mD;simp;omega
 split
 . unfold mD;simp;omega
 unfold mD;simp;omega
def Ov (ig:By->Bool):∀(k:Tr) (s:jD × By),mD (k.foldl (stepW ig) s).1<=mD s.1+k.length
 | [],s=>Nat.le_refl _
 | x :: k,s=>by
  rw [List.foldl_cons,List.length_cons];have h1:=Ov ig k (stepW ig s x);have h2:=Nh ig s x;omega
def Sw (ig:By->Bool) (k:Tr):mD (walkS ig k).1<=k.length:=by
 have:=Ov ig k (⟨[],[],[],[]⟩,[]);unfold walkS;have e:mD (⟨[],[],[],[]⟩:jD)=0:=rfl;rw [e] at this;omega
def over_fold (ig:By->Bool):∀(k:Tr) (s:jD × By),(k.foldl (stepW ig) s).2=s.2∨∃x∈k,x.1=(k.foldl (stepW ig) s).2
 | [],s=>.inl rfl
 | x :: k,s=>by
  rw [List.foldl_cons];rcases over_fold ig k (stepW ig s x) with h | ⟨y,hy,h⟩
  .
   have:(stepW ig s x).2=s.2∨(stepW ig s x).2=x.1:=by
    unfold stepW;split
    . exact .inl rfl
    split
    . exact .inr rfl
    split
    . exact .inr rfl
    split<;>exact .inl rfl
   rcases this with e | e
   . exact .inl (h.trans e)
   exact .inr ⟨x,List.mem_cons_self,(h.trans e).symm⟩
  exact .inr ⟨y,List.mem_cons_of_mem _ hy,h⟩
def Nb (ig:By->Bool) (k:Tr):(walkS ig k).2=[]∨∃x∈k,x.1=(walkS ig k).2:=over_fold ig k _
def Rj {l:Tr} {x:By × Nd} (h:x∈l):x.2.data.length<=usedL l:=by
 induction l with
 | nil=>cases h
 | cons y l ih =>
  obtain ⟨q,n⟩:=y;rw [usedL];rcases List.mem_cons.1 h with e | e
  . subst e;show n.data.length<=_;unfold jI;omega
  have:=ih e;omega
section
variable {ig:By->Bool} {f:jD} {over q:By} {n:Nd}
theorem step_skip (h:dB over q=true):stepW ig (f,over) (q,n)=(f,over):=by unfold stepW;rw [if_pos h]
theorem Ab (h:dB over q=false) (ht:isTempB q=true):stepW ig (f,over) (q,n)=(⟨f.items,f.temps++[q],f.ign,f.bad⟩,q):=by
 unfold stepW;simp only [h,ht,Bool.false_eq_true,if_false,if_true]
theorem De (h:dB over q=false) (ht:isTempB q=false) (hi:ig q=true):stepW ig (f,over) (q,n)=(⟨f.items,f.temps,f.ign++[q],f.bad⟩,q):=by
 unfold stepW;simp only [h,ht,hi,Bool.false_eq_true,if_false,if_true]
theorem vW (h:dB over q=false) (ht:isTempB q=false) (hi:ig q=false) (hb:eT n=true):stepW ig (f,over) (q,n)=(⟨f.items,f.temps,f.ign,f.bad++[q]⟩,over):=by
 unfold stepW;simp only [h,ht,hi,hb,Bool.false_eq_true,if_false,if_true]
theorem Ba (h:dB over q=false) (ht:isTempB q=false) (hi:ig q=false) (hb:eT n=false):stepW ig (f,over) (q,n)=(⟨f.items++[(q,n)],f.temps,f.ign,f.bad⟩,over):=by
 unfold stepW;simp only [h,ht,hi,hb,Bool.false_eq_true,if_false]
end
end Go.Proofs.YtahkcemdbfjilaaGreatDoor
