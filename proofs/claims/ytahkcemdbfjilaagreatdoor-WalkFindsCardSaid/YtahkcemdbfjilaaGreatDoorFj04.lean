/- Texts. Conditions: as said. -/
import Derived.Test.YtahkcemdbfjilaaGreatDoorFj00
import Derived.Test.YtahkcemdbfjilaaGreatDoorFj03
import Derived.Deep.MidRow
import Derived.Shelf.SlSortCmp.PartialInsertion1
import Derived.Shelf.SlSortCmp.Partition1
import Derived.Shelf.SlSortCmp.Pdq1
import Derived.Shelf.SlSortCmp.Whole1
import Derived.Shelf.SlSortCmp.NoneTotal
set_option linter.all false
set_option maxRecDepth 100000
set_option maxHeartbeats 32000000
namespace Go.Proofs.YtahkcemdbfjilaaGreatDoor
open Go.RowKit Go.Maps
abbrev lB (t:TypeId):Prop:=t=9∨t=2
def Gx (w W:World):Prop:=w.heap.size<=W.heap.size/\∀(j:Nat) (cs:Array Value) (t:TypeId) (q:Nat × Nat),w.heap[j]? = some (Obj.cells cs t q)->lB t->W.heap[j]? = some (Obj.cells cs t q)
def Gx.of_below {w W:World} (h:qW w W):Gx w W :=
 ⟨h.size,fun j _ _ _ ho _=>(h.block j (Array.getElem?_eq_some_iff.1 ho).1).trans ho⟩
def Gx.refl (w:World):Gx w w:=Gx.of_below qB
def Gx.trans {a b c:World} (h:Gx a b) (k:Gx b c):Gx a c:=⟨Nat.le_trans h.1 k.1,fun j cs t q ho hn=>k.2 j cs t q (h.2 j cs t q ho hn) hn⟩
def Has.gx {w W:World} {g:Nat} {t:TypeId} {cs:Array Value} (h:Has w g t cs) (ht:lB t) (hG:Gx w W):Has W g t cs :=
 hG.2 g _ _ _ h ht
def Loose (w:World) (g:Nat):Prop:=∀(cs:Array Value) (t:TypeId) (q:Nat × Nat),w.heap[g]? = some (Obj.cells cs t q)->¬lB t
def Gx.of_turn {own:Nat->Prop} {w W:World} (h:Turn own w W) (hl:∀g,own g->Loose w g):Gx w W :=
 ⟨h.size,fun j cs t q ho hn=>(h.block j (Array.getElem?_eq_some_iff.1 ho).1 (fun e=>hl j e cs t q ho hn)).trans ho⟩
def bX.loose {w:World} {m:Nat} {L:Tr} (h:bX w m L):Loose w m:=fun cs t q ho=>by
 obtain ⟨es,ck,hh,_⟩:=h;rw [hh] at ho;cases ho
def Has.loose {w:World} {g:Nat} {t:TypeId} {cs:Array Value} (h:Has w g t cs) (ht:¬lB t):Loose w g:=fun cs2 t2 q ho=>by
 unfold Has at h;rw [h] at ho;injection ho with ho;injection ho with _ ho;rw [<-ho];exact ht
def TreeS.gx {w W:World} {g o m:Nat} {cs:Array Value} {L:Tr} {u room:Nat} (h:TreeS w g o m 129 cs L u room) (hu:Turn (zQ g m) w W):Gx w W :=
 Gx.of_turn hu (fun k hk=>by rcases hk with e | e<;>rw [e];exact h.has.loose (by decide);exact h.mp.loose)
def jQ (w:World) (f:Value) (x:Eff):Prop :=
 Iz x<=1000000/\∃k lb,f=.func (.func k) #[] lb/\(∀(args:Array Value) (w:World),(callFunc k args).run Tryz.prog w=.ok (.enter k args) w) /\
  ∀(W:World) (g o m:Nat) (cs:Array Value) (L:Tr) (room most:Nat),Gx w W->TreeS W g o m 129 cs L (usedL L) room->WFT room L->room<=1048576->Gd W->most<=9223372036854775807 ->
   Calls Tryz.prog k (#[.pointer (some ⟨g,o,none⟩),.int .i64 (most:Int)]++lb) W fun e w'=>SP W g o m 129 cs room (aK room L (Lb x most)) e w'
def jQ.gx {w w':World} {f:Value} {x:Eff} (h:jQ w f x) (hg:Gx w w'):jQ w' f x:=by
 obtain ⟨hd,k,lb,h1,h2,h3⟩:=h;exact ⟨hd,k,lb,h1,h2,fun W g o m cs L room most hW=>h3 W g o m cs L room most (hg.trans hW)⟩
def jQ.one {w:World} {f:Value} {x:Eff} (h:jQ w f x):f.oneCell'=true:=by
 obtain ⟨_,k,lb,rfl,_⟩:=h;rfl
def Uo (s:By) (k:Nat):(ba s).extract 0 k=ba (s.take k):=by
 apply ByteArray.ext;simp [ba]
def Ux (d:By) (most:Nat) (w:World) (hd:d.length<=1000000) (hm:most<=9223372036854775807):qC 86 #[kS d,.int .i64 (most:Int)] w fun e w'=>e=.returned (kS (d.take most))/\w=w':=by
 have j5:(ba d).size<=1000000:=by rw [aD];exact hd
 have HT:Hid ((ba d).extract 0 (min ((ba d).size:Int) (most:Int)).toNat=ba (d.take most)):=by
  show _=_
  rw [Uo,aD,show (min (d.length:Int) (most:Int)).toNat=min d.length most by omega];rcases Nat.le_total d.length most with h | h
  . rw [Nat.min_eq_left h,List.take_length,List.take_of_length_le h]
  rw [Nat.min_eq_right h]
 go_enter Tryz.func86,Tryz.ntmps86
 go_wp2;go_ret;refine ⟨?_,rfl⟩;show Ending.returned (.string ((ba d).extract 0 (min ((ba d).size:Int) (most:Int)).toNat))=_
 rw [HT.o]
structure Cl (b1 b2:Nat) (p d:By) (W:World):Prop where
 x1:Has W b1 9 #[kS p]
 x2:Has W b2 9 #[kS d]
def Cl.gx {b1 b2:Nat} {p d:By} {w W:World} (h:Cl b1 b2 p d w) (hg:Gx w W):Cl b1 b2 p d W:=⟨h.x1.gx (.inl rfl) hg,h.x2.gx (.inl rfl) hg⟩
def Cl.drew {b1 b2:Nat} {p d:By} {w:World} (h:Cl b1 b2 p d w):Cl b1 b2 p d w.drew:=⟨h.x1,h.x2⟩
structure rF (b1 b2 b3:Nat) (p d:By) (tm:Int) (W:World):Prop where
 x1:Has W b1 9 #[kS p]
 x2:Has W b2 9 #[kS d]
 x3:Has W b3 2 #[.int .i64 tm]
def rF.gx {b1 b2 b3:Nat} {p d:By} {tm:Int} {w W:World} (h:rF b1 b2 b3 p d tm w) (hg:Gx w W):rF b1 b2 b3 p d tm W:=⟨h.x1.gx (.inl rfl) hg,h.x2.gx (.inl rfl) hg,h.x3.gx (.inr rfl) hg⟩
def rF.drew {b1 b2 b3:Nat} {p d:By} {tm:Int} {w:World} (h:rF b1 b2 b3 p d tm w):rF b1 b2 b3 p d tm w.drew:=⟨h.x1,h.x2,h.x3⟩
def Jl {W:World} {g o m:Nat} {cs:Array Value} {L:Tr} {room most:Nat} (h:TreeS W g o m 129 cs L (usedL L) room) (hW:WFT room L) (hr:room<=1048576) (hG:Gd W) (hm:most<=9223372036854775807)
 {b1 b2 b3:Nat} {p d:By} {tm:Int} (hx:rF b1 b2 b3 p d tm W) (hp:p.length<=4000) (hd:d.length<=1000000) :
 qC 84 #[.pointer (some ⟨g,o,none⟩),.int .i64 (most:Int),.pointer (some ⟨b1,0,none⟩),.pointer (some ⟨b2,0,none⟩),.pointer (some ⟨b3,0,none⟩)] W fun e w'=>SP W g o m 129 cs room (aK room L (.write p (d.take most) tm)) e w':=by
 have S0:Hid (rF b1 b2 b3 p d tm W.drew):=hx.drew;have TG:=hid h.drew;have CC:=hid (Ux d most W.drew hd hm);have CW:=hid (Lh h.drew hW hr (hG.kept (Below.refl _ W).drew) p (d.take most) tm hp (by rw [List.length_take];omega));obtain ⟨r,HR⟩:=qX (aK room L (.write p (d.take most) tm));rw [HR.o] at CW;rw [HR.o];clear h hx hG hW;go_enter Tryz.func84,Tryz.ntmps84
 go_wp2;refine qG (S:=rF b1 b2 b3 p d tm) (by kernel_rfl) (S0.o) (fun hS=>?_);refine qK 0 rfl (by kernel_rfl) ‹_› (fun w a8=>by go_simp;with_reducible rfl) ?_;simp only [Act.put,aB,aA,aC];refine qK 1 rfl (by kernel_rfl) ‹_› (fun w a8=>by have hc:=a8.x1.at_ 0;go_simp;with_reducible rfl) ?_;simp only [Act.put,aB,aA,aC];refine qK 2 rfl (by kernel_rfl) ‹_› (fun w a8=>by have hc:=a8.x2.at_ 0;go_simp;with_reducible rfl) ?_;simp only [Act.put,aB,aA,aC];refine qK 3 rfl (by kernel_rfl) ‹_› (fun w a8=>by go_simp;with_reducible rfl) ?_;simp only [Act.put,aB,aA,aC];refine qK 5 rfl (by kernel_rfl) ‹_› (fun w a8=>by have hc:=a8.x3.at_ 0;go_simp;with_reducible rfl) ?_;simp only [Act.put,aB,aA,aC];refine qD 4 rfl (by kernel_rfl) fun K hK=>?_
 go_simp;refine (CC.o).mono ?_;rintro e1 w1 ⟨rfl,rfl⟩;have g8:=S0.o;refine hK.o _ _ g8 (fun hS=>?_);clear hK K hS;refine qD 6 rfl (by kernel_rfl) fun K hK=>?_
 go_simp;refine (CW.o).mono ?_;rintro e2 w2 ⟨rfl,tt,qk⟩;have j5:=S0.o.gx (TG.o.gx tt);refine hK.o _ _ j5 (fun hS=>?_);clear hK K hS;refine qK 7 rfl (by kernel_rfl) ‹_› (fun w a8=>by go_simp;with_reducible rfl) ?_;simp only [Act.put,aB,aA,aC];refine qM (by kernel_rfl) ?_;go_wp2;go_ret;exact ⟨rfl,(Turn.refl _ W).drew.then tt,qk⟩
def Ss {W:World} {g o m:Nat} {cs:Array Value} {L:Tr} {room most:Nat} (h:TreeS W g o m 129 cs L (usedL L) room) (hW:WFT room L) (hr:room<=1048576) (hG:Gd W) (_hm:most<=9223372036854775807)
 {b1 b2 b3:Nat} {p d:By} {tm:Int} (hx:rF b1 b2 b3 p d tm W) (hp:p.length<=4000) (hd:d.length<=1000000) :
 qC 87 #[.pointer (some ⟨g,o,none⟩),.int .i64 (most:Int),.pointer (some ⟨b1,0,none⟩),.pointer (some ⟨b2,0,none⟩),.pointer (some ⟨b3,0,none⟩)] W fun e w'=>SP W g o m 129 cs room (aK room L (.link p d tm)) e w':=by
 have c1:=hx.x1.at_ 0;have c2:=hx.x2.at_ 0;have c3:=hx.x3.at_ 0;have CW:=hid (Qo h hW hr hG p d tm hp hd);obtain ⟨r,HR⟩:=qX (aK room L (.link p d tm));rw [HR.o] at CW;rw [HR.o];clear h hx hG hW;go_enter Tryz.func87,Tryz.ntmps87
 go_wp2_with (go_at_call 88;refine CW.o.mono ?_;rintro e2 w2 ⟨rfl,tt,qk⟩)
 go_ret;exact ⟨rfl,tt,qk⟩
def Lu {W:World} {g o m:Nat} {cs:Array Value} {L:Tr} {room most:Nat} (h:TreeS W g o m 129 cs L (usedL L) room) (hW:WFT room L) (hr:room<=1048576) (hG:Gd W) (_hm:most<=9223372036854775807)
 {b1:Nat} {p:By} (hx:Has W b1 9 #[kS p]) (hp:p.length<=4000) :
 qC 80 #[.pointer (some ⟨g,o,none⟩),.int .i64 (most:Int),.pointer (some ⟨b1,0,none⟩)] W fun e w'=>SP W g o m 129 cs room (aK room L (.mkdir p)) e w':=by
 have c1:=hx.at_ 0;have CW:=hid (Mj h hW hr hG p hp);obtain ⟨r,HR⟩:=qX (aK room L (.mkdir p));rw [HR.o] at CW;rw [HR.o];clear h hx hG hW;go_enter Tryz.func80,Tryz.ntmps80
 go_wp2_with (go_at_call 81;refine CW.o.mono ?_;rintro e2 w2 ⟨rfl,tt,qk⟩)
 go_ret;exact ⟨rfl,tt,qk⟩
def Sv {w:World} {b1 b2 b3:Nat} {p d:By} {tm:Int} (hx:rF b1 b2 b3 p d tm w) (hp:p.length<=4000) (hd:d.length<=1000000):jQ w (.func (.func 84) #[] #[.pointer (some ⟨b1,0,none⟩),.pointer (some ⟨b2,0,none⟩),.pointer (some ⟨b3,0,none⟩)]) (.write p d tm) :=
 ⟨hd,_,_,rfl,enters_of Tryz.func84 (by kernel_rfl) rfl,fun W g o m cs L room most hg h hW hr hG hm=>Jl h hW hr hG hm (hx.gx hg) hp hd⟩
def Tf {w:World} {b1 b2 b3:Nat} {p d:By} {tm:Int} (hx:rF b1 b2 b3 p d tm w) (hp:p.length<=4000) (hd:d.length<=1000000):jQ w (.func (.func 87) #[] #[.pointer (some ⟨b1,0,none⟩),.pointer (some ⟨b2,0,none⟩),.pointer (some ⟨b3,0,none⟩)]) (.link p d tm) :=
 ⟨Nat.zero_le _,_,_,rfl,enters_of Tryz.func87 (by kernel_rfl) rfl,fun W g o m cs L room most hg h hW hr hG hm=>Ss h hW hr hG hm (hx.gx hg) hp hd⟩
def Ql {w:World} {b1:Nat} {p:By} (hx:Has w b1 9 #[kS p]) (hp:p.length<=4000):jQ w (.func (.func 80) #[] #[.pointer (some ⟨b1,0,none⟩)]) (.mkdir p) :=
 ⟨Nat.zero_le _,_,_,rfl,enters_of Tryz.func80 (by kernel_rfl) rfl,fun W g o m cs L room most hg h hW hr hG hm=>Lu h hW hr hG hm (hx.gx (.inl rfl) hg) hp⟩
def au:(Tryz.prog.info? 194).map (fun i=>(i.zero,i.size,i.bytes))=some (some .nilFunc,1,8):=by kernel_rfl
def cellsD (m1 m2:Nat) (sv:Value) (M:Mo):Array Value :=
 #[.map (some m1),.int .i64 ((usedL M.now:Nat):Int),.int .i64 (M.room:Int),.map (some m2),.int .i64 ((usedL M.last:Nat):Int),.int .i64 (M.room:Int),sv,.int .i64 M.fuse]
def nC (w:World) (vs:List Value) (xs:List Eff):Prop:=vs.length=xs.length/\∀i (h1:i < vs.length) (h2:i < xs.length),jQ w vs[i] xs[i]
def nC.gx {w w':World} {vs:List Value} {xs:List Eff} (h:nC w vs xs) (hg:Gx w w'):nC w' vs xs:=⟨h.1,fun i h1 h2=>(h.2 i h1 h2).gx hg⟩
def nC.snoc {w:World} {vs:List Value} {xs:List Eff} (h:nC w vs xs) {v:Value} {x:Eff} (hv:jQ w v x):nC w (vs++[v]) (xs++[x]):=by
 refine ⟨by simp [h.1],fun i h1 h2=>?_⟩;rcases Nat.lt_or_ge i vs.length with k | k
 . rw [List.getElem_append_left k,List.getElem_append_left (by rw [<-h.1];exact k)]
   exact h.2 i k (by rw [<-h.1];exact k)
 rw [List.length_append,List.length_singleton] at h1;obtain rfl:i=vs.length:=by omega
 rw [List.getElem_append_right qN,List.getElem_append_right (by rw [h.1];exact Nat.le_refl _)];simpa using hv
structure DskI (own:Nat->Prop) (w:World) (p m1 m2:Nat) (sv:Value) (vs:List Value) (M:Mo):Prop where
 low:∀g,own g->g < w.heap.size
 loose:∀g,own g->Loose w g
 has:Has w p 129 (cellsD m1 m2 sv M)
 op:own p
 o1:own m1
 o2:own m2
 t1:bX w m1 M.now
 t2:bX w m2 M.last
 ne:m1≠m2
 row:w.ownsRow 0 194 1 sv vs.length vs
 osv:∀b,sv.ownBlock=some b->own b
 effs:nC w vs M.since
 good:Good M
 r0:1024<=M.room
 r1:M.room<=1048576
 len:M.since.length<=100000
def Dsk (own:Nat->Prop) (w:World) (p:Nat) (M:Mo):Prop:=∃m1 m2 sv vs,DskI own w p m1 m2 sv vs M
def row_of {B:Nat} {w w':World} {e:TypeId} {s n:Nat} {v:Value} {xs:List Value} (h:w.ownsRow B e s v n xs) (hs:∀g,v.ownBlock=some g->w'.heap[g]? = w.heap[g]?):w'.ownsRow B e s v n xs:=by
 refine ⟨h.1,?_⟩;rcases h.2 with h1 | ⟨g,c,cur,h1,h2,h3,h4⟩
 . exact .inl h1
 exact .inr ⟨g,c,cur,h1,h2,(hs g (by rw [h1];rfl)).trans h3,h4⟩
section
variable {own:Nat->Prop} {w:World} {p m1 m2:Nat} {sv:Value} {vs:List Value} {M:Mo}
theorem DskI.pne1 (h:DskI own w p m1 m2 sv vs M):m1≠p:=fun e=>by
 obtain ⟨es,ck,hh,_⟩:=h.t1;have:=h.has;unfold Has at this;rw [<-e,hh] at this;cases this
theorem DskI.pne2 (h:DskI own w p m1 m2 sv vs M):m2≠p:=fun e=>by
 obtain ⟨es,ck,hh,_⟩:=h.t2;have:=h.has;unfold Has at this;rw [<-e,hh] at this;cases this
theorem Tt {room:Nat} {L:Tr} (h:WFT room L) (hr:room<=1048576):L.length<=100000:=by
 have h1:=jZ (L:=L);have h2:=h.used;omega
theorem DskI.tr1 (h:DskI own w p m1 m2 sv vs M):TreeS w p 0 m1 129 (cellsD m1 m2 sv M) M.now (usedL M.now) M.room :=
 ⟨h.has,rfl,rfl,rfl,h.t1,h.good.w1.srt,h.pne1,Tt h.good.w1 h.r1⟩
theorem DskI.kept {w':World} (h:DskI own w p m1 m2 sv vs M) (hg:Gx w w') (hb:∀g,own g->w'.heap[g]? = w.heap[g]?):DskI own w' p m1 m2 sv vs M where
 low g rj:=Nat.lt_of_lt_of_le (h.low g rj) hg.1
 loose g rj cs t q ho:=h.loose g rj cs t q ((hb g rj).symm.trans ho)
 has:=(hb p h.op).trans h.has
 op:=h.op
 o1:=h.o1
 o2:=h.o2
 t1:=h.t1.kept (hb _ h.o1)
 t2:=h.t2.kept (hb _ h.o2)
 ne:=h.ne
 row:=row_of h.row (fun g rj=>hb g (h.osv g rj))
 osv:=h.osv
 effs:=h.effs.gx hg
 good:=h.good
 r0:=h.r0
 r1:=h.r1
 len:=h.len
theorem DskI.on {w':World} (h:DskI own w p m1 m2 sv vs M) (hb:qW w w'):DskI own w' p m1 m2 sv vs M :=
 h.kept (Gx.of_below hb) (fun g hg=>hb.block g (h.low g hg))
theorem Dsk.on {w':World} (h:Dsk own w p M) (hb:qW w w'):Dsk own w' p M:=by
 obtain ⟨m1,m2,sv,vs,h⟩:=h;exact ⟨m1,m2,sv,vs,h.on hb⟩
theorem Dsk.turn {own2:Nat->Prop} {w':World} (h:Dsk own w p M) (hu:Turn own2 w w') (hl:∀g,own2 g->Loose w g) (ha:∀g,own g->¬own2 g):Dsk own w' p M:=by
 obtain ⟨m1,m2,sv,vs,h⟩:=h;exact ⟨m1,m2,sv,vs,h.kept (Gx.of_turn hu hl) (fun g hg=>hu.block g (h.low g hg) (ha g hg))⟩
theorem Dsk.low (h:Dsk own w p M):∀g,own g->g < w.heap.size:=by obtain ⟨_,_,_,_,h⟩:=h;exact h.low
theorem Dsk.loose (h:Dsk own w p M):∀g,own g->Loose w g:=by obtain ⟨_,_,_,_,h⟩:=h;exact h.loose
theorem Dsk.good (h:Dsk own w p M):Good M:=by obtain ⟨_,_,_,_,h⟩:=h;exact h.good
end
def DPost (own:Nat->Prop) (w:World) (p:Nat) (M:Mo) (w':World):Prop :=
 ∃own',Dsk own' w' p M/\Turn own w w'/\∀g,own' g->own g∨w.heap.size<=g
def DPost.refl {own:Nat->Prop} {w w':World} {p:Nat} {M:Mo} (h:Dsk own w p M) (hb:qW w w'):DPost own w p M w' :=
 ⟨own,h.on hb,Turn.of_below hb,fun _ h=>.inl h⟩
def DPost.ahead {own:Nat->Prop} {w w1 w2:World} {p:Nat} {M:Mo} (hb:qW w w1) (h:DPost own w1 p M w2):DPost own w p M w2:=by
 obtain ⟨own',h1,h2,h4⟩:=h;exact ⟨own',h1,(Turn.of_below hb).then h2,fun g hg=>by rcases h4 g hg with k | k;exact .inl k;exact .inr (Nat.le_trans hb.size k)⟩
def Turn.mono {own own':Nat->Prop} {w w':World} (h:Turn own w w') (ho:∀g,own g->own' g):Turn own' w w' :=
 ⟨h.os,h.tape,h.output,h.size,fun g hg hn=>h.block g hg (fun k=>hn (ho g k))⟩
def Turn.of_grown {own:Nat->Prop} {w w':World} {r:Option Nat} (h:w.grownBy w' r) (ho:∀g,r=some g->own g):Turn own w w' :=
 ⟨h.os,h.tape,h.output,h.size,fun g hg hn=>h.block g hg (fun e=>hn (ho g e.symm))⟩
def lF {w:World} {B n:Nat} {e:TypeId} {v:Value} {xs:List Value} (h:w.ownsRow B e 1 v n xs) {b:Nat} (hb:v.ownBlock=some b):∃cur,w.heap[b]? = some (.cells cur e (0,0)):=by
 rcases h.2 with ⟨k1,_⟩ | ⟨g',c,cur,k1,_,k3,_⟩
 . rw [k1] at hb;cases hb
 rw [k1] at hb;injection hb with hb;exact ⟨cur,by rw [<-hb];exact k3⟩
def az (m:Nat) (w:World):(binOp .neq 124 (.map (some m)) (.map none)).run Tryz.prog w=.ok (.bool true) w:=by kernel_rfl
def iP {w:World} {p m1:Nat} (c1:w.cell? ⟨p,0,none⟩=some (.map (some m1))) :
 qC 59 #[.pointer (some ⟨p,0,none⟩)] w fun e w'=>e=.returned (.bool true)/\w=w':=by
 have q1:=az m1;go_enter Tryz.func59,Tryz.ntmps59
 go_wp2;go_ret;exact ⟨rfl,rfl⟩
def Xu {w:World} {p m1:Nat} {f:Int} (c1:w.cell? ⟨p,0,none⟩=some (.map (some m1))) (c7:w.cell? ⟨p,7,none⟩=some (.int .i64 f)) :
 qC 175 #[.pointer (some ⟨p,0,none⟩)] w fun e w'=>e=.returned (.bool (f == 0))/\w=w':=by
 have C1:=hid (iP c1);clear c1;go_enter Tryz.func175,Tryz.ntmps175
 go_wp2_with (go_at_call 59;refine C1.o.mono ?_;rintro e1 w1 ⟨rfl,rfl⟩)
 go_ret;exact ⟨rfl,rfl⟩
def oY (f:Int):Int:=if f=0 then 20 else 0
def yB {f:Int} (h:f=0):oY f=20:=if_pos h
def Ap {f:Int} (h:f≠0):oY f=0:=if_neg h
def Jm {w:World} {p m1:Nat} {f:Int} (c1:w.cell? ⟨p,0,none⟩=some (.map (some m1))) (c7:w.cell? ⟨p,7,none⟩=some (.int .i64 f)) :
 qC 127 #[.pointer (some ⟨p,0,none⟩)] w fun e w'=>e=.returned (.int .i64 (oY f))/\w=w':=by
 have C1:=hid (iP c1);obtain ⟨b,HB⟩:=qX ((f == 0));have C2:Hid (qC 175 #[.pointer (some ⟨p,0,none⟩)] w fun e w'=>e=.returned (.bool b)/\w=w'):=by rw [<-HB.o];exact Xu c1 c7
 clear c1 c7
 cases b with
 | true =>
  go_enter Tryz.func127,Tryz.ntmps127
  go_wp2_with (first
   | (go_at_call 59;refine C1.o.mono ?_;rintro e1 w1 ⟨rfl,rfl⟩)
   | (go_at_call 175;refine C2.o.mono ?_;rintro e1 w1 ⟨rfl,rfl⟩))
  go_ret;exact ⟨by rw [yB (by simpa using HB.o)];rfl,rfl⟩
 | false =>
  go_enter Tryz.func127,Tryz.ntmps127
  go_wp2_with (first
   | (go_at_call 59;refine C1.o.mono ?_;rintro e1 w1 ⟨rfl,rfl⟩)
   | (go_at_call 175;refine C2.o.mono ?_;rintro e1 w1 ⟨rfl,rfl⟩))
  go_ret;exact ⟨by rw [Ap (by simpa using HB.o)];rfl,rfl⟩
def xL (p k:Nat):Prop:=k=p
def Vx {cs:Array Value} {i:Nat} {v:Value} (h:cs[i]? = some v):cs.setIfInBounds i v=cs:=by
 apply Array.ext_getElem?;intro j;rw [Array.getElem?_setIfInBounds];split
 .
  rename_i hi
  subst hi;split
  . exact h.symm
  rename_i hn
  rw [Array.getElem?_eq_none (by omega)]
 rfl
def Sl {w:World} {p:Nat} {cs:Array Value} {f:Int} (h:Has w p 129 cs) (h7:cs[7]? = some (.int .i64 f)) (f0:-1<=f) (f1:f<=9223372036854775807) :
 qC 128 #[.pointer (some ⟨p,0,none⟩)] w fun e w'=>e=.returned (.tuple #[])/\Turn (xL p) w w'/\Has w' p 129 (cs.setIfInBounds 7 (.int .i64 (eM f))):=by
 have c7:w.cell? ⟨p,7,none⟩=some (.int .i64 f):=(h.at_ 7).trans h7;have f7:=h.free 7;have H:=hid h;have H7:=hid h7;clear h h7;by_cases hf:0 < f
 .
  have hd:decide (0 < f)=true:=by simpa using hf
  have HB:Hid (eM f=f - 1):=by show _=_;unfold eM;rw [if_pos hf]
  go_enter Tryz.func128,Tryz.ntmps128
  go_wp2;go_end0
  refine ⟨rfl,Turn.set w p 7 _ rfl,?_⟩;rw [HB.o];exact H.o.put 7 _
 have hd:decide (0 < f)=false:=by simpa using hf
 have HB:Hid (eM f=f):=by show _=_;unfold eM;rw [if_neg hf]
 go_enter Tryz.func128,Tryz.ntmps128
 go_wp2;go_end0
 refine ⟨rfl,Turn.refl _ _,?_⟩;rw [HB.o,Vx H7.o];exact H.o
open Go.RowKit Go.Maps
def DskI.ready {own:Nat->Prop} {w:World} {p m1 m2:Nat} {sv:Value} {vs:List Value} {M:Mo} (h:DskI own w p m1 m2 sv vs M) :
 qC 127 #[.pointer (some ⟨p,0,none⟩)] w fun e w'=>e=.returned (.int .i64 (oY M.fuse))/\w=w' :=
 Jm (h.has.at_ 0) (h.has.at_ 7)
def Cs {w:World} {B n:Nat} {e:TypeId} {v:Value} {xs:List Value} (h:w.ownsRow B e 1 v n xs):∃A c,v=.slice A n c:=by
 rcases h.2 with ⟨k1,k2⟩ | ⟨g',c,cur,k1,_⟩
 . exact ⟨_,_,by rw [k2];exact k1⟩
 exact ⟨_,_,k1⟩
def DskI.err {own:Nat->Prop} {w w2:World} {p m1 m2:Nat} {sv:Value} {vs:List Value} {M:Mo} (h:DskI own w p m1 m2 sv vs M) (hu:Turn (zQ p m1) w w2) (hT:TreeS w2 p 0 m1 129 (cellsD m1 m2 sv M) M.now (usedL M.now) M.room):DskI own w2 p m1 m2 sv vs M:=by
 have zf:∀b,sv.ownBlock=some b->¬zQ p m1 b:=by
  intro b hb;obtain ⟨cur,hc⟩:=lF h.row hb;rintro (e | e)
  . have:=h.has
    unfold Has at this;rw [<-e,hc] at this;injection this with this;injection this with _ this;revert this;decide
  obtain ⟨es,ck,hh,_⟩:=h.t1;rw [<-e,hc] at hh;cases hh
 have UI:Turn own w w2:=hu.mono (fun g k=>by rcases k with e | e<;>rw [e];exact h.op;exact h.o1);refine ⟨fun g hg=>Nat.lt_of_lt_of_le (h.low g hg) hu.size,fun g hg=>?_,hT.has,h.op,h.o1,h.o2,hT.mp,h.t2.kept (hu.block m2 h.t2.inside (fun k=>by rcases k with k | k;exact h.pne2 k;exact h.ne k.symm)),h.ne,
  row_of h.row (fun b hb=>hu.block b (h.low b (h.osv b hb)) (zf b hb)),h.osv,h.effs.gx (Gx.of_turn UI h.loose),h.good,h.r0,h.r1,h.len⟩
 by_cases k:zQ p m1 g
 . rcases k with e | e<;>rw [e]
   . exact hT.has.loose (by decide)
   . exact hT.mp.loose
 intro cs t q ho;exact h.loose g hg cs t q ((hu.block g (h.low g hg) k).symm.trans ho)
def DskI.done {own:Nat->Prop} {w w1 w2 w3 w4:World} {p m1 m2:Nat} {sv v':Value} {vs:List Value} {M:Mo} (h:DskI own w p m1 m2 sv vs M) {v:Value} {x:Eff} (hv:jQ w v x) {L':Tr}
 (UM:M.fuse≠0) (hs:aK M.room M.now x=(0,L')) (u1:Turn (zQ p m1) w w1) (t1:TreeS w1 p 0 m1 129 ((cellsD m1 m2 sv M).setIfInBounds 1 (.int .i64 ((usedL L':Nat):Int))) L' (usedL L') M.room)
 (b1:qW w1 w2) (a9:w1.heap.size < w2.heap.size) (o8:w3.ownsRow 0 194 1 v' (vs.length+1) (vs++[v])) (hg:w2.grownBy w3 sv.ownBlock) (II:v'.ownBlock=sv.ownBlock∨v'.ownBlock=some w2.heap.size)
 (u4:Turn (xL p) (w3.setCell ⟨p,6,none⟩ v') w4) (h4:Has w4 p 129 ((((cellsD m1 m2 sv M).setIfInBounds 1 (.int .i64 ((usedL L':Nat):Int))).setIfInBounds 6 v').setIfInBounds 7 (.int .i64 (eM M.fuse)))) (f8:M.since.length+1<=100000) :
 DPost own w p (bL M x).2 w4:=by
 have hM:(bL M x).2=⟨L',M.last,M.since++[x],eM M.fuse,M.room⟩:=by unfold bL;rw [if_neg UM,hs,if_pos rfl]
 have mi:=h.good.do x
 rw [hM] at mi ⊢
 -- the row of effects is no map and no disk
 have zf:∀b,sv.ownBlock=some b->b≠p/\b≠m1/\b≠m2:=by
  intro b hb;obtain ⟨cur,hc⟩:=lF h.row hb;refine ⟨fun e=>?_,fun e=>?_,fun e=>?_⟩
  . have:=h.has
    unfold Has at this;rw [<-e,hc] at this;injection this with this;injection this with _ this;revert this;decide
  . obtain ⟨es,ck,hh,_⟩:=h.t1
    rw [<-e,hc] at hh;cases hh
  obtain ⟨es,ck,hh,_⟩:=h.t2;rw [<-e,hc] at hh;cases hh
 have hpw1:p < w1.heap.size:=t1.has.inside;have hm1w1:m1 < w1.heap.size:=t1.mp.inside;have hm2w:m2 < w.heap.size:=h.t2.inside;have hm2w1:m2 < w1.heap.size:=Nat.lt_of_lt_of_le hm2w u1.size;have s2:=b1.size;have s3:=hg.size;have hp3:Has w3 p 129 ((cellsD m1 m2 sv M).setIfInBounds 1 (.int .i64 ((usedL L':Nat):Int))) :=
  ((hg.block p (by omega) (fun e=>(zf p e.symm).1 rfl)).trans (b1.block p hpw1)).trans t1.has
 have hv'3:∀b,v'.ownBlock=some b->b≠p/\b≠m1/\b≠m2/\b < w3.heap.size:=by
  intro b hb;obtain ⟨cur,hc⟩:=lF o8 hb;refine ⟨fun e=>?_,?_,?_,(Array.getElem?_eq_some_iff.1 hc).1⟩
  . have:=hp3
    unfold Has at this;rw [<-e,hc] at this;injection this with this;injection this with _ this;revert this;decide
  . rcases II with k | k
    . exact (zf b (k▸hb)).2.1
    rw [hb] at k;injection k with k;omega
  rcases II with k | k
  . exact (zf b (k▸hb)).2.2
  rw [hb] at k;injection k with k;omega
 have hT:Turn own w w4:=by
  have a1:Turn own w w1:=u1.mono (fun g k=>by rcases k with e | e<;>rw [e];exact h.op;exact h.o1);have a2:Turn own w1 w2:=Turn.of_below b1;have a3:Turn own w2 w3:=Turn.of_grown hg (fun g k=>h.osv g k);have a4:Turn own w3 (w3.setCell ⟨p,6,none⟩ v'):=Turn.set w3 p 6 v' h.op;have a5:Turn own (w3.setCell ⟨p,6,none⟩ v') w4:=u4.mono (fun g k=>by rw [k];exact h.op);exact (((a1.then a2).then a3).then a4).then a5
 have RH:∀g,g < w3.heap.size->g≠p->w4.heap[g]? = w3.heap[g]?:=fun g xc j3 =>
  (u4.block g (by simpa using xc) (fun k=>j3 k)).trans (Below.heap_setCell w3 ⟨p,6,none⟩ v' g j3)
 have s4:w3.heap.size<=w4.heap.size:=by have:=u4.size;simpa using this
 have UN:bX w4 m1 L':=t1.mp.kept (((RH m1 (by omega) h.pne1).trans (hg.block m1 (by omega) (fun e=>(zf m1 e.symm).2.1 rfl))).trans (b1.block m1 hm1w1));have UO:bX w4 m2 M.last:=h.t2.kept ((((RH m2 (by omega) h.pne2).trans (hg.block m2 (by omega) (fun e=>(zf m2 e.symm).2.2 rfl))).trans (b1.block m2 hm2w1)).trans (u1.block m2 hm2w (fun k=>by rcases k with k | k;exact h.pne2 k;exact h.ne k.symm)));have s6:(((cellsD m1 m2 sv M).setIfInBounds 1 (.int .i64 ((usedL L':Nat):Int))).setIfInBounds 6 v').setIfInBounds 7 (.int .i64 (eM M.fuse))=cellsD m1 m2 v' ⟨L',M.last,M.since++[x],eM M.fuse,M.room⟩:=rfl;rw [s6] at h4;refine ⟨fun g=>g=p∨g=m1∨g=m2∨v'.ownBlock=some g,⟨m1,m2,v',vs++[v],?_⟩,hT,?_⟩
 .
  refine ⟨?_,?_,h4,.inl rfl,.inr (.inl rfl),.inr (.inr (.inl rfl)),UN,UO,h.ne,?_,fun b hb=>.inr (.inr (.inr hb)),?_,mi,h.r0,h.r1,by simp;omega⟩
  . rintro g (e | e | e | e)
    . rw [e];exact h4.inside
    . rw [e];exact UN.inside
    . rw [e];exact UO.inside
    have:=(hv'3 g e).2.2.2;omega
  .
   rintro g (e | e | e | e)
   . rw [e];exact h4.loose (by decide)
   . rw [e];exact UN.loose
   . rw [e];exact UO.loose
   obtain ⟨cur,hc⟩:=lF o8 e;have hb:=hv'3 g e;have NS:Has w4 g 194 cur:=(RH g hb.2.2.2 hb.1).trans hc;exact NS.loose (by decide)
  . rw [List.length_append,List.length_singleton]
    exact row_of o8 (fun g hb=>RH g (hv'3 g hb).2.2.2 (hv'3 g hb).1)
  exact (h.effs.gx (Gx.of_turn hT h.loose)).snoc (hv.gx (Gx.of_turn hT h.loose))
 rintro g (e | e | e | e)
 . rw [e];exact .inl h.op
 . rw [e];exact .inl h.o1
 . rw [e];exact .inl h.o2
 rcases II with k | k
 . exact .inl (h.osv g (k▸e))
 rw [e] at k;injection k with k;have:=u1.size;exact .inr (by omega)
def yK {own:Nat->Prop} {w:World} {p:Nat} {M:Mo} (h:Dsk own w p M) (hG:Gd w) (v:Value) (x:Eff) (hv:jQ w v x) (f8:M.since.length+1<=100000) :
 qC 79 #[.pointer (some ⟨p,0,none⟩),v] w fun e w'=>e=.returned (.int .i64 (bL M x).1)/\DPost own w p (bL M x).2 w':=by
 obtain ⟨m1,m2,sv,vs,h⟩:=h;have C1:=hid h.ready;have H:=hid h;have HV:=hid hv;have HL:=hid f8;by_cases hf:M.fuse=0
 .
  have HR:Hid (oY M.fuse=20):=yB hf;have HD:Hid (bL M x=(20,M)):=by show _=_;unfold bL;rw [if_pos hf]
  rw [HR.o] at C1;clear h hv hf hG f8;go_enter Tryz.func79,Tryz.ntmps79
  go_wp2_with (go_at_call 127;refine C1.o.mono ?_;rintro e1 w1 ⟨rfl,rfl⟩)
  go_ret;rw [HD.o];exact ⟨rfl,DPost.refl ⟨_,_,_,_,H.o⟩ qB⟩
 have HR:Hid (oY M.fuse=0):=Ap hf;obtain ⟨hd,k,lb,rfl,ek,hk⟩:=hv;have CK:=hid (hk w p 0 m1 _ M.now M.room 9223372036854775807 (Gx.refl _) h.tr1 h.good.w1 h.r1 hG (by omega));rw [Ev x _ (by omega)] at CK;obtain ⟨⟨c,L'⟩,HS⟩:=qX (aK M.room M.now x);rw [HS.o] at CK;rw [HR.o] at C1;by_cases hc:c=0
 .
  subst hc;have HD:Hid ((bL M x).1=0):=by show _=_;unfold bL;rw [if_neg hf,HS.o,if_pos rfl]
  have HF:=hid hf;have HSV:Hid (∀b,sv.ownBlock=some b->b≠p):=fun b hb=>by
   obtain ⟨cur,hc⟩:=lF h.row hb;intro e;have:=h.has;unfold Has at this;rw [<-e,hc] at this;injection this with this;injection this with _ this;revert this;decide
  obtain ⟨i0,hi,o7,g8,j5⟩:=info_parts au;have IJ:=hid HV.o.one;have FL:vs.length+1<=100000:=by rw [h.effs.1];exact f8
  have F0:=hid h.good.f0;have F1:=hid h.good.f1;obtain ⟨n,HN⟩:=qX (vs.length);have hrow0:=h.row;rw [HN.o] at FL;have N2:Hid (n+1<=maxLen):=by show _<=_;unfold maxLen;omega
  have N3:Hid ((n+1)*8<=140737488355328):=by show _<=_;omega
  have ui:=hid hrow0;clear h hf hG f8 hk hrow0 FL hd;go_enter Tryz.func79,Tryz.ntmps79
  go_wp2_with fail
  refine C1.o.mono ?_;rintro e1 w1 ⟨rfl,rfl⟩;go_wp2_with fail
  refine CK.o.mono ?_;rintro e2 w2 ⟨rfl,tt,qk⟩;have U2:=hid tt;have T2:=hid qk;have hc6:w2.cell? ⟨p,6,none⟩=some sv:=(T2.o.has.at_ 6).trans rfl;have R2:Hid (w2.ownsRow 0 194 1 sv n vs):=by
   have hr:=ui.o;rw [HN.o] at hr;exact row_of hr (fun b hb=>U2.o.block b (H.o.low b (H.o.osv b hb)) (fun k=>by
    rcases k with k | k
    . exact HSV.o b hb k
    obtain ⟨cur,hc⟩:=lF ui.o hb;obtain ⟨es,ck,hh,_⟩:=H.o.t1;rw [<-k,hc] at hh;cases hh))
  have HP3:Hid (∀w3,(w2.alloc (.cells #[Value.func (.func k) #[] lb] 194)).grownBy w3 sv.ownBlock->Has w3 p 129 ((cellsD m1 m2 sv M).setIfInBounds 1 (.int .i64 ((usedL L':Nat):Int)))):=fun w3 hg =>
   ((hg.block p (by simp;have:=T2.o.has.inside;omega) (fun e=>HSV.o p e.symm rfl)).trans (Below.heap_alloc w2 _ p T2.o.has.inside)).trans T2.o.has
  clear tt qk;go_wp2_with (first
   | (at_builtin;refine wpList_append_own_at _ rfl _ _ 127 rfl 0 194 i0 .nilFunc 1 8 Tryz.underlying127 hi o7 g8 j5 rfl (by decide) _ _ _ rfl (R2.o.alloc _) ⟨w2.heap.size,0,none⟩ 1 1 [Value.func (.func k) #[] lb] rfl rfl (cell_one_new _ _ _) (fun u hu=>by rw [List.mem_singleton] at hu;rw [hu];exact IJ.o) N2.o N3.o (Nat.zero_le _) ?_;intro v' w3 l8 xc hnil3 hloc3;obtain ⟨A3,c3,rfl⟩:=Cs l8;have ug:=hid l8;have uh:Hid ((w2.alloc (.cells #[Value.func (.func k) #[] lb] 194)).grownBy w3 sv.ownBlock):=xc;have zi:Hid ((Value.slice A3 (n+1) c3).ownBlock=sv.ownBlock∨(Value.slice A3 (n+1) c3).ownBlock=some (w2.alloc (.cells #[Value.func (.func k) #[] lb] 194)).heap.size):=hloc3;have P3:=hid (HP3.o w3 xc);have hc63:=P3.o.at_ 6;have hf63:=P3.o.free 6;clear l8 xc hnil3 hloc3)
   | fail)
  have CB:=hid (Sl (P3.o.put 6 (.slice A3 (n+1) c3)) (f:=M.fuse) rfl F0.o F1.o);refine CB.o.mono ?_;rintro e4 w4 ⟨rfl,zj,h4⟩;have U4:=hid zj;have H4:=hid h4;clear zj h4;go_wp2;go_ret;have hD:=H.o.done HV.o HF.o HS.o U2.o T2.o (qB.alloc qN _) (by simp) (by rw [HN.o];exact ug.o) uh.o zi.o U4.o H4.o HL.o;exact ⟨by rw [HD.o];rfl,hD⟩
 have q1:(c == 0)=false:=by simpa using hc
 have q2:(c != 0)=true:=by simpa using hc
 have HD:Hid (bL M x=(c,M)):=by show _=_;unfold bL;rw [if_neg hf,HS.o,if_neg hc]
 have BT:Hid (L'=M.now):=by show _=_;have:=Vh (room:=M.room) (L:=M.now) x (by rw [HS.o];exact hc);rw [HS.o] at this;exact this
 clear h hf hG f8 hc hk;go_enter Tryz.func79,Tryz.ntmps79
 go_wp2_with fail
 refine C1.o.mono ?_;rintro e1 w1 ⟨rfl,rfl⟩;go_wp2_with fail
 refine CK.o.mono ?_;rintro e2 w2 ⟨rfl,tt,qk⟩;have U2:=hid tt;have T2:=hid qk;clear tt qk;go_wp2;go_ret;rw [HD.o];have hT:=T2.o;rw [BT.o] at hT;have hu:Turn own w w2:=U2.o.mono (fun g k=>by rcases k with e | e<;>rw [e];exact H.o.op;exact H.o.o1);have s6:(cellsD m1 m2 sv M).setIfInBounds (0+1) (.int .i64 ((usedL M.now:Nat):Int))=cellsD m1 m2 sv M:=rfl;rw [s6] at hT;have hD:DskI own w2 p m1 m2 sv vs M:=H.o.err U2.o hT;exact ⟨rfl,own,⟨_,_,_,_,hD⟩,hu,fun _ k=>.inl k⟩
open Go.RowKit Go.Maps
def iR (s:By) (w:World) (hs:s.length<=1000000):qC 78 #[kS s] w fun e w'=>e=.returned (kS s)/\qW w w':=by
 have C:=hid (Tryz.stringslite_Clone (ba s) w (by rw [aD];omega));go_enter Tryz.func78,Tryz.ntmps78
 go_wp2_with (go_at_call 126;refine C.o.mono ?_;rintro e1 w1 ⟨rfl,c8⟩)
 go_ret;exact ⟨rfl,c8⟩
def Has.again {w:World} {g:Nat} {t:TypeId} {v:Value} (h:Has w g t #[v]):Has (w.setCell ⟨g,0,none⟩ v) g t #[v]:=h.put 0 v
def Has.again2 {w:World} {g k:Nat} {t t2:TypeId} {v u:Value} (h:Has w g t #[v]) (hk:Has w k t2 #[u]):Has (w.setCell ⟨k,0,none⟩ u) g t #[v]:=by
 by_cases e:g=k
 .
  subst e;unfold Has at h hk;rw [h] at hk;injection hk with hk;injection hk with h1 h2;injection h1 with h1;injection h1 with h1 _;subst h1;exact Has.again h
 exact h.other e u
structure CL (w:World) (b1 b2:Nat) (p d:By) (W:World):Prop where
 bx:Cl b1 b2 p d W
 bl:qW w W
def CL.drew {w W:World} {b1 b2:Nat} {p d:By} (h:CL w b1 b2 p d W):CL w b1 b2 p d W.drew:=⟨h.bx.drew,h.bl.drew⟩
def CL.on {w W W':World} {b1 b2:Nat} {p d:By} (h:CL w b1 b2 p d W) (hb:qW W W'):CL w b1 b2 p d W':=⟨h.bx.gx (Gx.of_below hb),h.bl.trans (hb.mono h.bl.size)⟩
def CL.set1 {w W:World} {b1 b2:Nat} {p d:By} (h:CL w b1 b2 p d W) (h1:w.heap.size<=b1):CL w b1 b2 p d (W.setCell ⟨b1,0,none⟩ (kS p)):=⟨⟨h.bx.x1.again,h.bx.x2.again2 h.bx.x1⟩,h.bl.setCell h1 _⟩
def CL.set2 {w W:World} {b1 b2:Nat} {p d:By} (h:CL w b1 b2 p d W) (h2:w.heap.size<=b2):CL w b1 b2 p d (W.setCell ⟨b2,0,none⟩ (kS d)):=⟨⟨h.bx.x1.again2 h.bx.x2,h.bx.x2.again⟩,h.bl.setCell h2 _⟩
def Jo {own:Nat->Prop} {w:World} {q:Nat} {M:Mo} (h:Dsk own w q M) (hG:Gd w) (p d:By) (tm:Int) (hp:p.length<=4000) (hd:d.length<=1000000) (f8:M.since.length+1<=100000) :
 qC 39 #[.pointer (some ⟨q,0,none⟩),kS p,kS d,.int .i64 tm] w fun e w'=>e=.returned (.int .i64 (bL M (.write p d tm)).1)/\DPost own w q (bL M (.write p d tm)).2 w':=by
 have H:=hid h;have HG:=hid hG;have HL:=hid f8;have P0:Hid (CL w w.heap.size (w.heap.size+1) p d ((((w.alloc (.cells #[kS p] 9)).alloc (.cells #[kS d] 9)).alloc (.cells #[.int .i64 tm] 2)))):=by
  refine ⟨⟨?_,?_⟩,?_⟩
  . exact ((Has.fresh w _ _).more _).more _
  . exact (Has.fresh' (w.alloc _) _ _ (by simp)).more _
  exact ((qB.alloc qN _).alloc (by simp) _).alloc (by simp;omega) _
 have X3:Hid (Has ((((w.alloc (.cells #[kS p] 9)).alloc (.cells #[kS d] 9)).alloc (.cells #[.int .i64 tm] 2))).drew (w.heap.size+2) 2 #[.int .i64 tm]):=Has.fresh' _ _ _ (by simp);have C1:=hid (fun W=>iR p W (by omega));have C2:=hid (fun W=>iR d W (by omega));clear h hG f8;go_enter Tryz.func39,Tryz.ntmps39
 go_wp2;refine qG (S:=CL w w.heap.size (w.heap.size+1) p d) (by kernel_rfl) (P0.o.drew) (fun hS=>?_);refine qK 0 rfl (by kernel_rfl) ‹_› (fun w a8=>by have hc:=a8.bx.x1.at_ 0;go_simp;with_reducible rfl) ?_;simp only [Act.put,aB,aA,aC];refine qK 2 rfl (by kernel_rfl) ‹_› (fun w a8=>by have hc:=a8.bx.x2.at_ 0;go_simp;with_reducible rfl) ?_;simp only [Act.put,aB,aA,aC];refine qD 1 rfl (by kernel_rfl) fun K hK=>?_
 go_simp;refine (C1.o _).mono ?_;rintro e1 w1 ⟨rfl,c8⟩;have g8:=P0.o.drew.on c8;refine hK.o _ _ g8 (fun hS=>?_);clear hK K hS;refine qD 3 rfl (by kernel_rfl) fun K hK=>?_
 go_simp;refine (C2.o _).mono ?_;rintro e2 w2 ⟨rfl,a9⟩;have j5:=g8.on a9;refine hK.o _ _ j5 (fun hS=>?_);clear hK K hS;have X3b:Hid (Has w2 (w.heap.size+2) 2 #[.int .i64 tm]):=(X3.o.gx (.inr rfl) (Gx.of_below c8)).gx (.inr rfl) (Gx.of_below a9);have P2:=hid j5;clear g8 j5 c8 a9;have DN:=P2.o.bx.x1.at_ 0;have RI:=P2.o.bx.x1.free 0;refine qD 4 rfl (by kernel_rfl) fun K hK=>?_
 go_simp;refine hK.o _ _ (P2.o.set1 qN) (fun hS=>?_);clear hK K hS;have P3:=hid (P2.o.set1 qN);have tj:=P3.o.bx.x2.at_ 0;have po:=P3.o.bx.x2.free 0;refine qD 5 rfl (by kernel_rfl) fun K hK=>?_
 go_simp;refine hK.o _ _ (P3.o.set2 (Nat.le_succ _)) (fun hS=>?_);clear hK K hS;refine qM (by kernel_rfl) ?_;have P4:=hid (P3.o.set2 (Nat.le_succ _));have X4:Hid (Has ((w2.setCell ⟨w.heap.size,0,none⟩ (kS p)).setCell ⟨w.heap.size+1,0,none⟩ (kS d)) (w.heap.size+2) 2 #[.int .i64 tm]):=(X3b.o.other (p:=⟨w.heap.size,0,none⟩) (by show _≠w.heap.size;omega) _).other (p:=⟨w.heap.size+1,0,none⟩) (by show _≠w.heap.size+1;omega) _;clear DN RI tj po;have CD:=hid (yK (H.o.on P4.o.bl) (HG.o.kept P4.o.bl) _ (.write p d tm) (Sv ⟨P4.o.bx.x1,P4.o.bx.x2,X4.o⟩ hp hd) HL.o);go_wp2_with fail
 refine CD.o.mono ?_;rintro e3 w3 ⟨rfl,h3⟩;have H3:=hid h3;clear h3;go_wp2;go_ret;exact ⟨rfl,DPost.ahead P4.o.bl H3.o⟩
def Nm {own:Nat->Prop} {w:World} {q:Nat} {M:Mo} (h:Dsk own w q M) (hG:Gd w) (p d:By) (tm:Int) (hp:p.length<=4000) (hd:d.length<=1000000) (f8:M.since.length+1<=100000) :
 qC 40 #[.pointer (some ⟨q,0,none⟩),kS p,kS d,.int .i64 tm] w fun e w'=>e=.returned (.int .i64 (bL M (.link p d tm)).1)/\DPost own w q (bL M (.link p d tm)).2 w':=by
 have H:=hid h;have HG:=hid hG;have HL:=hid f8;have P0:Hid (CL w w.heap.size (w.heap.size+1) p d ((((w.alloc (.cells #[kS p] 9)).alloc (.cells #[kS d] 9)).alloc (.cells #[.int .i64 tm] 2)))):=by
  refine ⟨⟨?_,?_⟩,?_⟩
  . exact ((Has.fresh w _ _).more _).more _
  . exact (Has.fresh' (w.alloc _) _ _ (by simp)).more _
  exact ((qB.alloc qN _).alloc (by simp) _).alloc (by simp;omega) _
 have X3:Hid (Has ((((w.alloc (.cells #[kS p] 9)).alloc (.cells #[kS d] 9)).alloc (.cells #[.int .i64 tm] 2))).drew (w.heap.size+2) 2 #[.int .i64 tm]):=Has.fresh' _ _ _ (by simp);have C1:=hid (fun W=>iR p W (by omega));have C2:=hid (fun W=>iR d W (by omega));clear h hG f8;go_enter Tryz.func40,Tryz.ntmps40
 go_wp2;refine qG (S:=CL w w.heap.size (w.heap.size+1) p d) (by kernel_rfl) (P0.o.drew) (fun hS=>?_);refine qK 0 rfl (by kernel_rfl) ‹_› (fun w a8=>by have hc:=a8.bx.x1.at_ 0;go_simp;with_reducible rfl) ?_;simp only [Act.put,aB,aA,aC];refine qK 2 rfl (by kernel_rfl) ‹_› (fun w a8=>by have hc:=a8.bx.x2.at_ 0;go_simp;with_reducible rfl) ?_;simp only [Act.put,aB,aA,aC];refine qD 1 rfl (by kernel_rfl) fun K hK=>?_
 go_simp;refine (C1.o _).mono ?_;rintro e1 w1 ⟨rfl,c8⟩;have g8:=P0.o.drew.on c8;refine hK.o _ _ g8 (fun hS=>?_);clear hK K hS;refine qD 3 rfl (by kernel_rfl) fun K hK=>?_
 go_simp;refine (C2.o _).mono ?_;rintro e2 w2 ⟨rfl,a9⟩;have j5:=g8.on a9;refine hK.o _ _ j5 (fun hS=>?_);clear hK K hS;have X3b:Hid (Has w2 (w.heap.size+2) 2 #[.int .i64 tm]):=(X3.o.gx (.inr rfl) (Gx.of_below c8)).gx (.inr rfl) (Gx.of_below a9);have P2:=hid j5;clear g8 j5 c8 a9;have DN:=P2.o.bx.x1.at_ 0;have RI:=P2.o.bx.x1.free 0;refine qD 4 rfl (by kernel_rfl) fun K hK=>?_
 go_simp;refine hK.o _ _ (P2.o.set1 qN) (fun hS=>?_);clear hK K hS;have P3:=hid (P2.o.set1 qN);have tj:=P3.o.bx.x2.at_ 0;have po:=P3.o.bx.x2.free 0;refine qD 5 rfl (by kernel_rfl) fun K hK=>?_
 go_simp;refine hK.o _ _ (P3.o.set2 (Nat.le_succ _)) (fun hS=>?_);clear hK K hS;refine qM (by kernel_rfl) ?_;have P4:=hid (P3.o.set2 (Nat.le_succ _));have X4:Hid (Has ((w2.setCell ⟨w.heap.size,0,none⟩ (kS p)).setCell ⟨w.heap.size+1,0,none⟩ (kS d)) (w.heap.size+2) 2 #[.int .i64 tm]):=(X3b.o.other (p:=⟨w.heap.size,0,none⟩) (by show _≠w.heap.size;omega) _).other (p:=⟨w.heap.size+1,0,none⟩) (by show _≠w.heap.size+1;omega) _;clear DN RI tj po;have CD:=hid (yK (H.o.on P4.o.bl) (HG.o.kept P4.o.bl) _ (.link p d tm) (Tf ⟨P4.o.bx.x1,P4.o.bx.x2,X4.o⟩ hp hd) HL.o);go_wp2_with fail
 refine CD.o.mono ?_;rintro e3 w3 ⟨rfl,h3⟩;have H3:=hid h3;clear h3;go_wp2;go_ret;exact ⟨rfl,DPost.ahead P4.o.bl H3.o⟩
def Ll {own:Nat->Prop} {w:World} {q:Nat} {M:Mo} (h:Dsk own w q M) (hG:Gd w) (p:By) (hp:p.length<=4000) (f8:M.since.length+1<=100000) :
 qC 37 #[.pointer (some ⟨q,0,none⟩),kS p] w fun e w'=>e=.returned (.int .i64 (bL M (.mkdir p)).1)/\DPost own w q (bL M (.mkdir p)).2 w':=by
 have H:=hid h;have HG:=hid hG;have HL:=hid f8;have X0:Hid (Has (w.alloc (.cells #[kS p] 9)) w.heap.size 9 #[kS p]):=Has.fresh _ _ _;have B0:Hid (qW w (w.alloc (.cells #[kS p] 9))):=qB.alloc qN _;have C1:=hid (iR p (w.alloc (.cells #[kS p] 9)) (by omega));clear h hG f8;go_enter Tryz.func37,Tryz.ntmps37
 go_wp2_with fail
 refine C1.o.mono ?_;rintro e1 w1 ⟨rfl,c8⟩;have X1:Hid (Has w1 w.heap.size 9 #[kS p]):=X0.o.gx (.inl rfl) (Gx.of_below c8);have B1:=hid (B0.o.trans (c8.mono B0.o.size));have DN:=X1.o.at_ 0;have RI:=X1.o.free 0;clear c8;go_wp2_with fail
 have B2:Hid (qW w (w1.setCell ⟨w.heap.size,0,none⟩ (kS p))):=B1.o.setCell qN _;have CD:=hid (yK (H.o.on B2.o) (HG.o.kept B2.o) _ (.mkdir p) (Ql X1.o.again hp) HL.o);refine CD.o.mono ?_;rintro e3 w3 ⟨rfl,h3⟩;have H3:=hid h3;clear h3;go_wp2;go_ret;exact ⟨rfl,DPost.ahead B2.o H3.o⟩
open Go.RowKit Go.Maps
def jh:(Tryz.prog.info? 126).map (·.size)=some 3:=by kernel_rfl
section
variable {ops:Array Oper} {o:Oper} {a:Act}
theorem pC {w:World} {K:Act->World->Prop} {Q:Exit->Act->World->Prop} {E:Prop} (hw:Region.wanted o (yielded ops a.tmps)=true) (T:TypeId) (x y:Operand) (ho:o.op=.store T x y) (g:Nat) (cs old:Array Value)
 (hx:a.eval x=.pointer (some ⟨g,0,none⟩)) (hy:a.eval y=.agg cs) (hg:Has w g T old) (hi:(Tryz.prog.info? T).map (·.size)=some cs.size) (hold:old.size=cs.size) (h1:cs.all (·.oneCell')=true) (hK:K (a.put o.dst undef) (w.setRow g cs)) :
 if Region.wanted o (yielded ops a.tmps)=true then Oper.wp Tryz.prog o a w K Q else E:=by
 rw [if_pos hw];exact wp_store_row (P:=Tryz.prog) T x y ho g cs hx hy T old hg hi hold h1 hK
end
def jl (w:World) (L:Tr) (u room:Nat) (e:Ending) (w':World):Prop :=
 ∃m,e=.returned (.agg #[.map (some m),.int .i64 (u:Int),.int .i64 (room:Int)])/\bX w' m L/\w.heap.size<=m/\qW w w'
def Fx (room:Nat) (w:World):qC 77 #[.int .i64 (room:Int)] w fun e w'=>jl w [] 0 room e w':=by
 have rl:=@run_makeMap Tryz.prog;have M1:Hid (bX ((w.alloc (.cells #[.map (some (w.heap.size+1)),.int .i64 0,.int .i64 (room:Int)] 126)).alloc (.map #[] 0)) (w.heap.size+1) []):=by
  have:=bX.made (w.alloc (.cells #[.map (some (w.heap.size+1)),.int .i64 0,.int .i64 (room:Int)] 126));show bX _ _ _
  simpa using this
 have H1:Hid (Has ((w.alloc (.cells #[.map (some (w.heap.size+1)),.int .i64 0,.int .i64 (room:Int)] 126)).alloc (.map #[] 0)) w.heap.size 126 #[.map (some (w.heap.size+1)),.int .i64 0,.int .i64 (room:Int)]):=(Has.fresh _ _ _).more _;have B1:Hid (qW w ((w.alloc (.cells #[.map (some (w.heap.size+1)),.int .i64 0,.int .i64 (room:Int)] 126)).alloc (.map #[] 0))):=(qB.alloc qN _).alloc (by simp) _;go_enter Tryz.func77,Tryz.ntmps77
 go_wp2;refine bodyPost_ret (results_cell_row rfl _ _ w.heap.size 126 _ (0,0) _ rfl H1.o Tryz.underlying126 rfl jh) rfl ?_;exact ⟨w.heap.size+1,rfl,M1.o,Nat.le_succ _,B1.o⟩
def lc (room:Nat) (w:World) (e:Ending) (w':World):Prop:=∃own p,e=.returned (.tuple #[.pointer (some ⟨p,0,none⟩),.int .i64 0])/\Dsk own w' p (newM room)/\(∀g,own g->w.heap.size<=g)/\qW w w'
def Zo {w:World} {m1 m2 room:Nat} (h1:bX w m1 []) (h2:bX w m2 []) (j3:m1≠m2) (r0:1024<=room) (r1:room<=1048576) (B:Nat) (hB:B<=w.heap.size) (b1:B<=m1) (b2:B<=m2) :
 ∃own,Dsk own (w.alloc (.cells (cellsD m1 m2 (.slice none 0 0) (newM room)) 129)) w.heap.size (newM room)/\∀g,own g->B<=g:=by
 have hf:=Has.fresh w 129 (cellsD m1 m2 (.slice none 0 0) (newM room));have k1:bX (w.alloc (.cells (cellsD m1 m2 (.slice none 0 0) (newM room)) 129)) m1 []:=h1.kept (Below.heap_alloc _ _ _ h1.inside);have k2:bX (w.alloc (.cells (cellsD m1 m2 (.slice none 0 0) (newM room)) 129)) m2 []:=h2.kept (Below.heap_alloc _ _ _ h2.inside);refine ⟨fun g=>g=w.heap.size∨g=m1∨g=m2,⟨m1,m2,.slice none 0 0,[],?_⟩,?_⟩
 .
  refine ⟨?_,?_,hf,.inl rfl,.inr (.inl rfl),.inr (.inr rfl),k1,k2,j3,World.ownsRow_nil _ _ _ _,fun b hb=>(by cases hb),⟨rfl,fun i h=>(by simp at h)⟩,Good.new room,r0,r1,Nat.zero_le _⟩
  . rintro g (e | e | e)<;>rw [e]
    . exact hf.inside
    . exact k1.inside
    . exact k2.inside
  rintro g (e | e | e)<;>rw [e]
  . exact hf.loose (by decide)
  . exact k1.loose
  exact k2.loose
 rintro g (e | e | e)<;>omega
def Wt (room:Nat) (w:World) (r0:1024<=room) (r1:room<=1048576):qC 34 #[.int .i64 (room:Int)] w fun e w'=>lc room w e w':=by
 have C1:=hid (fun W=>Fx room W);have d1:decide ((room:Int) < 1024)=false:=by simp;omega
 have d2:decide ((1048576:Int) < (room:Int))=false:=by simp;omega
 have R0:=hid r0;have R1:=hid r1;go_enter Tryz.func34,Tryz.ntmps34
 go_wp2_with fail
 refine (C1.o _).mono ?_;rintro e1 w1 ⟨m1,rfl,IK,pp,c8⟩;have M1:=hid IK;have B1:=hid c8;have L1:=hid pp;clear IK c8 pp;go_wp2_with fail
 refine (C1.o _).mono ?_;rintro e2 w2 ⟨m2,rfl,tq,zk,a9⟩;have M2:=hid tq;have M12:Hid (bX w2 m1 []):=M1.o.kept (a9.block m1 M1.o.inside);have B2:=hid (B1.o.trans (a9.mono B1.o.size));have L2:=hid zk;have LL:Hid (m1≠m2):=by have:=M1.o.inside;show ¬_;omega
 have FM:Hid (w.heap.size<=m2):=Nat.le_trans B1.o.size zk;clear tq a9 zk;go_wp2;go_ret2;obtain ⟨own,k1,k2⟩:=Zo M12.o M2.o LL.o R0.o R1.o w.heap.size B2.o.size L1.o FM.o;exact ⟨own,w2.heap.size,rfl,k1,k2,B2.o.alloc B2.o.size _⟩
open Go.RowKit Go.Maps
def Has.there {w:World} {g:Nat} {t:TypeId} {cs:Array Value} (h:Has w g t cs) (o n:Nat) (hn:o+n<=cs.size):w.there g o n:=fun j hj=>by
 refine ⟨?_,h.free _⟩;rw [h.at_,Array.getElem?_eq_getElem (by omega)];rfl
open Go.RowKit Go.Maps
def Ym:(Tryz.prog.info? 71).map (·.size)=some 4:=by kernel_rfl
def results_cell_tmp {fn:Func} {c:Nat} {t:Tmp} (h:fn.results=#[.cell c 71,.tmp t]) (tmps:Array Value) (w:World) (g:Nat) (cs:Array Value) (hc:tmps.getD c undef=.pointer (some ⟨g,0,none⟩)) (hg:Has w g 71 cs) (hi:cs.size=4) :
 (results fn tmps).run Tryz.prog w=.ok (.tuple #[.agg cs,tmps.getD t undef]) w:=by
 have zm:tmps[c]?.getD undef=.pointer (some ⟨g,0,none⟩):=by simpa using hc
 have hl:=run_loadVar_row (P:=Tryz.prog) w g 71 71 cs (0,0) _ hg Tryz.underlying71 rfl (by rw [hi];exact Ym);simp [results,h,zm,asAddr,hl]
section
variable {own:Nat->Prop} {w:World} {p:Nat} {M:Mo}
theorem Qm (h:Dsk own w p M):qC 17 #[.pointer (some ⟨p,0,none⟩)] w fun e w'=>e=.returned (.int .i64 ((usedL M.now:Nat):Int))/\w=w':=by
 obtain ⟨m1,m2,sv,vs,h⟩:=h;have C1:=hid (iP (m1:=m1) (h.has.at_ 0));have c1:w.cell? ⟨p,1,none⟩=some (.int .i64 ((usedL M.now:Nat):Int)):=h.has.at_ 1;clear h;go_enter Tryz.func17,Tryz.ntmps17
 go_wp2_with (go_at_call 59;refine C1.o.mono ?_;rintro e1 w1 ⟨rfl,rfl⟩)
 go_ret;exact ⟨rfl,rfl⟩
theorem Em (h:Dsk own w p M):qC 19 #[.pointer (some ⟨p,0,none⟩)] w fun e w'=>e=.returned (.int .i64 (M.since.length:Int))/\w=w':=by
 obtain ⟨m1,m2,sv,vs,h⟩:=h;have C1:=hid (iP (m1:=m1) (h.has.at_ 0));have c1:w.cell? ⟨p,6,none⟩=some sv:=h.has.at_ 6;obtain ⟨A,c,rfl⟩:=Cs h.row;have HL:=hid h.effs.1;clear h;go_enter Tryz.func19,Tryz.ntmps19
 go_wp2_with (go_at_call 59;refine C1.o.mono ?_;rintro e1 w1 ⟨rfl,rfl⟩)
 go_ret;exact ⟨by rw [<-HL.o];rfl,rfl⟩
def oH (L:Tr) (p:By):Nd × Int:=if mayB p then (match look L p with | some n=>(n,0) | none=>(n0,5)) else (n0,10)
def Yj (w:World) (r:Nd × Int) (e:Ending) (w':World):Prop:=e=.returned (.tuple #[nodeV r.1,.int .i64 r.2])/\qW w w'
theorem Sz (h:Dsk own w p M) (hG:Gd w) (s:By) (hs:s.length<=4000):qC 61 #[.pointer (some ⟨p,0,none⟩),kS s] w fun e w'=>Yj w (oH M.now s) e w':=by
 obtain ⟨m1,m2,sv,vs,h⟩:=h;have B0:Hid (qW w (w.alloc (.cells #[.int .i64 0,.string ⟨#[]⟩,.string ⟨#[]⟩,.int .i64 0] 71))):=qB.alloc qN _;have H:=hid h;have C1:Hid (∀W,qW w W->qC 59 #[.pointer (some ⟨p,0,none⟩)] W fun e w'=>e=.returned (.bool true)/\W=w'):=fun W hb=>iP (m1:=m1) ((h.on hb).has.at_ 0)
 cases hm:mayB s with
 | false =>
  have C2:Hid (∀W,qW w W->qC 99 #[kS s] W fun e w'=>e=.returned (.bool false)/\qW W w'):=fun W hb=>fN s false hm W (hG.kept hb) hs
  have HR:Hid (oH M.now s=(n0,10)):=by show _=_;unfold oH;rw [hm];rfl
  clear h hG hm;go_enter Tryz.func61,Tryz.ntmps61
  go_wp2_with fail
  refine (C1.o _ B0.o).mono ?_;rintro e1 w1 ⟨rfl,rfl⟩;go_wp2_with fail
  refine (C2.o _ B0.o).mono ?_;rintro e2 w2 ⟨rfl,a9⟩;have B2:=hid (B0.o.trans (a9.mono B0.o.size));have X2:Hid (Has w2 w.heap.size 71 #[.int .i64 0,.string ⟨#[]⟩,.string ⟨#[]⟩,.int .i64 0]):=(Has.fresh w _ _).kept a9 (by simp);clear a9;go_wp2_with (refine wpList_store_row rfl 71 (.tmp 4) (.tmp 15) rfl w.heap.size #[.int .i64 0,.string ⟨#[]⟩,.string ⟨#[]⟩,.int .i64 0] rfl rfl 71 _ X2.o (by kernel_rfl) rfl (by simp [Value.oneCell']) ?_)
  refine bodyPost_ret (results_cell_tmp rfl _ _ w.heap.size #[.int .i64 0,.string ⟨#[]⟩,.string ⟨#[]⟩,.int .i64 0] rfl (X2.o.row) rfl) rfl ?_;rw [HR.o];exact ⟨rfl,B2.o.rowK qN _⟩
 | true =>
  have C2:Hid (∀W,qW w W->qC 99 #[kS s] W fun e w'=>e=.returned (.bool true)/\qW W w'):=fun W hb=>fN s true hm W (hG.kept hb) hs
  cases hl:look M.now s with
  | none =>
   have C3:Hid (∀W,qW w W->qC 106 #[.pointer (some ⟨p,0,none⟩),kS s] W fun e w'=>e=.returned (.bool false)/\qW W w'):=fun W hb=>by
    have:=nH (h.on hb).tr1 s hs;unfold hasB at this;rw [hl] at this;exact this
   have HR:Hid (oH M.now s=(n0,5)):=by show _=_;unfold oH;rw [hm,hl];rfl
   clear h hG hm hl;go_enter Tryz.func61,Tryz.ntmps61
   go_wp2_with fail
   refine (C1.o _ B0.o).mono ?_;rintro e1 w1 ⟨rfl,rfl⟩;go_wp2_with fail
   refine (C2.o _ B0.o).mono ?_;rintro e2 w2 ⟨rfl,a9⟩;have B2:=hid (B0.o.trans (a9.mono B0.o.size));have X2:Hid (Has w2 w.heap.size 71 #[.int .i64 0,.string ⟨#[]⟩,.string ⟨#[]⟩,.int .i64 0]):=(Has.fresh w _ _).kept a9 (by simp);clear a9;go_wp2_with fail
   refine (C3.o _ B2.o).mono ?_;rintro e3 w3 ⟨rfl,i7⟩;have B3:=hid (B2.o.trans (i7.mono B2.o.size));have X3:Hid (Has w3 w.heap.size 71 #[.int .i64 0,.string ⟨#[]⟩,.string ⟨#[]⟩,.int .i64 0]):=X2.o.kept i7 X2.o.inside;clear i7;go_wp2_with (refine wpList_store_row rfl 71 (.tmp 4) (.tmp 23) rfl w.heap.size #[.int .i64 0,.string ⟨#[]⟩,.string ⟨#[]⟩,.int .i64 0] rfl rfl 71 _ X3.o (by kernel_rfl) rfl (by simp [Value.oneCell']) ?_)
   refine bodyPost_ret (results_cell_tmp rfl _ _ w.heap.size #[.int .i64 0,.string ⟨#[]⟩,.string ⟨#[]⟩,.int .i64 0] rfl (X3.o.row) rfl) rfl ?_;rw [HR.o];exact ⟨rfl,B3.o.rowK qN _⟩
  | some n =>
   obtain ⟨k0,d0,x0,t0⟩:=n;have C3:Hid (∀W,qW w W->qC 106 #[.pointer (some ⟨p,0,none⟩),kS s] W fun e w'=>e=.returned (.bool true)/\qW W w'):=fun W hb=>by
    have:=nH (h.on hb).tr1 s hs;unfold hasB at this;rw [hl] at this;exact this
   have C4:Hid (∀W,qW w W->W.cell? ⟨p,0,none⟩=some (.map (some m1))/\(Instr.lookup 124 (.map (some m1)) (kS s) false).run Tryz.prog W=.ok (.agg #[.int .i64 k0,kS d0,kS x0,.int .i64 t0]) W):=fun W hb=>by
    have h':=h.on hb;have:=h'.t1.look (p:=s) (iK hs);rw [hl] at this;exact ⟨h'.has.at_ 0,this⟩
   have HR:Hid (oH M.now s=(⟨k0,d0,x0,t0⟩,0)):=by show _=_;unfold oH;rw [hm,hl];rfl
   clear h hG hm hl;go_enter Tryz.func61,Tryz.ntmps61
   go_wp2_with fail
   refine (C1.o _ B0.o).mono ?_;rintro e1 w1 ⟨rfl,rfl⟩;go_wp2_with fail
   refine (C2.o _ B0.o).mono ?_;rintro e2 w2 ⟨rfl,a9⟩;have B2:=hid (B0.o.trans (a9.mono B0.o.size));have X2:Hid (Has w2 w.heap.size 71 #[.int .i64 0,.string ⟨#[]⟩,.string ⟨#[]⟩,.int .i64 0]):=(Has.fresh w _ _).kept a9 (by simp);clear a9;go_wp2_with fail
   refine (C3.o _ B2.o).mono ?_;rintro e3 w3 ⟨rfl,i7⟩;have B3:=hid (B2.o.trans (i7.mono B2.o.size));have X3:Hid (Has w3 w.heap.size 71 #[.int .i64 0,.string ⟨#[]⟩,.string ⟨#[]⟩,.int .i64 0]):=X2.o.kept i7 X2.o.inside;obtain ⟨c0,LK⟩:=C4.o _ B3.o;clear i7;go_wp2_with (refine wpList_store_row rfl 71 (.tmp 4) (.tmp 30) rfl w.heap.size #[.int .i64 k0,kS d0,kS x0,.int .i64 t0] rfl rfl 71 _ X3.o (by kernel_rfl) rfl (by simp [Value.oneCell']) ?_)
   refine bodyPost_ret (results_cell_tmp rfl _ _ w.heap.size #[.int .i64 k0,kS d0,kS x0,.int .i64 t0] rfl (X3.o.row) rfl) rfl ?_;rw [HR.o];exact ⟨rfl,B3.o.rowK qN _⟩
end
end Go.Proofs.YtahkcemdbfjilaaGreatDoor
namespace Go.Proofs
open Go.Shelf
def Tryz.laysSlF6_f167_ren:Go.Shelf.Ren:=⟨fun | 6=>167 | 15=>191 | 14=>204 | 28=>231 | 29=>232 | 20=>238 | 21=>239 | 22=>240 | 23=>241 | 24=>242 | 25=>243 | 26=>244 | 27=>245 | 46=>270 | 47=>262 | 48=>263 | 49=>271 | 50=>272 | 57=>276 | n=>n,fun | 22=>34 | 24=>9 | 25=>231 | 3=>3 | 39=>239 | 0=>0 | 53=>53 | 55=>266 | 4=>4 | 46=>286 | 45=>285 | 50=>108 | 5=>5 | 9=>9 | 66=>319 | 70=>323 | 76=>330 | 77=>331 | n=>n,fun | n=>n⟩
theorem Tryz.laysSlF6_f167:Go.Proofs.SlLaysF.n6 Tryz.prog Tryz.laysSlF6_f167_ren:=by
 constructor
 case f6=>exact ⟨Tryz.f167.name,by decide,Tryz.func167.trans (congrArg some (by kernel_rfl))⟩
 case f14=>exact ⟨Tryz.f204.name,by decide,Tryz.func204.trans (congrArg some (by kernel_rfl))⟩
 case f20=>exact ⟨Tryz.f238.name,by decide,Tryz.func238.trans (congrArg some (by kernel_rfl))⟩
 case f21=>exact ⟨Tryz.f239.name,by decide,Tryz.func239.trans (congrArg some (by kernel_rfl))⟩
 case f22=>exact ⟨Tryz.f240.name,by decide,Tryz.func240.trans (congrArg some (by kernel_rfl))⟩
 case f23=>exact ⟨Tryz.f241.name,by decide,Tryz.func241.trans (congrArg some (by kernel_rfl))⟩
 case f24=>exact ⟨Tryz.f242.name,by decide,Tryz.func242.trans (congrArg some (by kernel_rfl))⟩
 case f25=>exact ⟨Tryz.f243.name,by decide,Tryz.func243.trans (congrArg some (by kernel_rfl))⟩
 case f26=>exact ⟨Tryz.f244.name,by decide,Tryz.func244.trans (congrArg some (by kernel_rfl))⟩
 case f27=>exact ⟨Tryz.f245.name,by decide,Tryz.func245.trans (congrArg some (by kernel_rfl))⟩
 case f46=>exact ⟨Tryz.f270.name,by decide,Tryz.func270.trans (congrArg some (by kernel_rfl))⟩
 case f49=>exact ⟨Tryz.f271.name,by decide,Tryz.func271.trans (congrArg some (by kernel_rfl))⟩
 case f50=>exact ⟨Tryz.f272.name,by decide,Tryz.func272.trans (congrArg some (by kernel_rfl))⟩
 case f57=>exact ⟨Tryz.f276.name,by decide,Tryz.func276.trans (congrArg some (by kernel_rfl))⟩
 all_goals first|kernel_rfl|(intros;kernel_rfl)|(constructor<;>first|kernel_rfl|(intros;kernel_rfl))
def Tryz.laysSlF06_f167_ren:Go.Shelf.Ren:=⟨fun | 6=>167 | 15=>191 | 14=>204 | 28=>231 | 29=>232 | 20=>238 | 21=>239 | 22=>240 | 23=>241 | 24=>242 | 25=>243 | 26=>244 | 27=>245 | 46=>270 | 47=>262 | 48=>263 | 49=>271 | 50=>272 | 57=>276 | n=>n,fun | 22=>34 | 24=>9 | 25=>231 | 3=>3 | 39=>239 | 0=>0 | 53=>53 | 55=>266 | 4=>4 | 46=>286 | 45=>285 | 50=>108 | 5=>5 | 9=>9 | 66=>319 | 70=>323 | 76=>330 | 77=>331 | n=>n,fun | n=>n⟩
theorem Tryz.laysSlF06_f167:Go.Proofs.SlLaysF0.n6 Tryz.prog Tryz.laysSlF06_f167_ren:=by
 constructor
 case f6=>exact ⟨Tryz.f167.name,by decide,Tryz.func167.trans (congrArg some (by kernel_rfl))⟩
 case f14=>exact ⟨Tryz.f204.name,by decide,Tryz.func204.trans (congrArg some (by kernel_rfl))⟩
 case f20=>exact ⟨Tryz.f238.name,by decide,Tryz.func238.trans (congrArg some (by kernel_rfl))⟩
 case f21=>exact ⟨Tryz.f239.name,by decide,Tryz.func239.trans (congrArg some (by kernel_rfl))⟩
 case f22=>exact ⟨Tryz.f240.name,by decide,Tryz.func240.trans (congrArg some (by kernel_rfl))⟩
 case f23=>exact ⟨Tryz.f241.name,by decide,Tryz.func241.trans (congrArg some (by kernel_rfl))⟩
 case f24=>exact ⟨Tryz.f242.name,by decide,Tryz.func242.trans (congrArg some (by kernel_rfl))⟩
 case f25=>exact ⟨Tryz.f243.name,by decide,Tryz.func243.trans (congrArg some (by kernel_rfl))⟩
 case f26=>exact ⟨Tryz.f244.name,by decide,Tryz.func244.trans (congrArg some (by kernel_rfl))⟩
 case f27=>exact ⟨Tryz.f245.name,by decide,Tryz.func245.trans (congrArg some (by kernel_rfl))⟩
 case f46=>exact ⟨Tryz.f270.name,by decide,Tryz.func270.trans (congrArg some (by kernel_rfl))⟩
 case f49=>exact ⟨Tryz.f271.name,by decide,Tryz.func271.trans (congrArg some (by kernel_rfl))⟩
 case f50=>exact ⟨Tryz.f272.name,by decide,Tryz.func272.trans (congrArg some (by kernel_rfl))⟩
 case f57=>exact ⟨Tryz.f276.name,by decide,Tryz.func276.trans (congrArg some (by kernel_rfl))⟩
 all_goals first|kernel_rfl|(intros;kernel_rfl)|(constructor<;>first|kernel_rfl|(intros;kernel_rfl))
open Go.RowKit Go.Lib Go.Sort in
theorem Tryz.slices_SortFunc_none {α:Type} [Inhabited α] (p:Option Addr) (cap:Nat) (fv:Value) (w:World) :
 Calls Tryz.prog 167 #[.slice p 0 cap,fv] w fun e w'=>e=.returned (.tuple #[])/\w'=w:=AnyF.slices_SortFunc_none Tryz.laysSlF06_f167 p cap fv w
open Go.RowKit Go.Lib Go.Sort in
theorem Tryz.slices_SortFunc_total {α:Type} [Inhabited α] (enc:α->Value) (h1:OneCell enc) (cf:α->α->Int) (hO:SWO (ltOf cf)) (g:Nat) (cb:Array Value) (blk off cap:Nat) (d:Array α) (w:World) (eg:∀args w,(callFunc g args).run Tryz.prog w=.ok (.enter g args) w) (hcmp:CmpLays1 Tryz.prog g cb enc cf blk off d.size w) (hH:Holds enc w blk off d) (IC:blk < w.heap.size) (p9:d.size < 4611686018427387904) (hT:∀x y,(ltOf cf) x y=false->(ltOf cf) y x=false->x=y) :
 Calls Tryz.prog 167 #[.slice (some ⟨blk,off,none⟩) d.size cap,.func (.func g) #[] cb] w fun e w' =>
  e=.returned (.tuple #[])/\∃n os,w'=sortWorld enc w blk off n (d.toList.mergeSort fun x y=>!(ltOf cf) y x).toArray os:=Any.slices_SortFunc_total Tryz.laysSlF6_f167 enc h1 cf hO g cb blk off cap d w eg hcmp hH IC p9 hT
end Go.Proofs
