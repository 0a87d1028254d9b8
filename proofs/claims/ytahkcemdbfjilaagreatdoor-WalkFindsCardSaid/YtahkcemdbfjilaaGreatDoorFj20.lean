/- Texts. Conditions: as said. -/
import Derived.Test.YtahkcemdbfjilaaGreatDoorFj00
import Derived.Test.YtahkcemdbfjilaaGreatDoorFj19
import Derived.Test.YtahkcemdbfjilaaGreatDoorRows
import Derived.Test.YtahkcemdbfjilaaGreatDoorCards
import Derived.Test.YtahkcemdbfjilaaGreatDoorTie
import Derived.ProofKit
import Derived.LaidMore
import Derived.OpenShut
import Derived.Lay
import Derived.Stop.Joined
import Derived.SevenTiedAt
import Derived.HandedShaped
set_option linter.all false
set_option maxRecDepth 100000
set_option maxHeartbeats 32000000
namespace Go.Proofs.YtahkcemdbfjilaaGreatDoor
open Go.RowKit Go.Maps
inductive Th
 | d (p:Nat) (M:Mo)
 | r (p:Nat) (M:Mo)
 | h (b:Nat) (t:TypeId) (cs:Array Value)
 | s (v:Value) (e:TypeId) (sz n:Nat) (xs:List Value)
def ThOk (own:Nat->Prop) (w:World):Th->Prop
 | .d p M=>Dsk own w p M
 | .r p M=>RDk own w p M
 | .h b t cs=>((∀g,own g->g=b)/\own b/\Has w b t cs)/\¬lB t
 | .s v e sz n xs=>((∀g,own g↔v.ownBlock=some g)/\w.ownsRow 0 e sz v n xs)/\¬lB e
def ThOk.low {own:Nat->Prop} {w:World} {x:Th} (h:ThOk own w x):∀g,own g->g < w.heap.size:=by
 cases x with
 | d p M=>exact Dsk.low h
 | r p M=>exact RDk.low h
 | h b t cs=>intro g hg;rw [h.1.1 g hg];exact h.1.2.2.inside
 | s v e sz n xs=>intro g hg;exact (World.ownsRow.lt h.1.2 g ((h.1.1 g).1 hg)).2
def ThOk.loose {own:Nat->Prop} {w:World} {x:Th} (h:ThOk own w x):∀g,own g->Loose w g:=by
 cases x with
 | d p M=>exact Dsk.loose h
 | r p M=>exact RDk.loose h
 | h b t cs=>intro g hg;rw [h.1.1 g hg];exact h.1.2.2.loose h.2
 | s v e sz n xs=>intro g hg;obtain ⟨cur,hc⟩:=bI h.1.2 ((h.1.1 g).1 hg);exact Has.loose (cs:=cur) hc h.2
def ThOk.turn {own own2:Nat->Prop} {w w':World} {x:Th} (h:ThOk own w x) (hu:Turn own2 w w') (hl:∀g,own2 g->Loose w g) (ha:∀g,own g->¬own2 g):ThOk own w' x:=by
 cases x with
 | d p M=>exact Dsk.turn h hu hl ha
 | r p M=>exact RDk.turn h hu ha
 | h b t cs=>exact ⟨⟨h.1.1,h.1.2.1,(hu.block b h.1.2.2.inside (ha b h.1.2.1)).trans h.1.2.2⟩,h.2⟩
 | s v e sz n xs=>exact ⟨⟨h.1.1,row_of h.1.2 fun g hg=>hu.block g (World.ownsRow.lt h.1.2 g hg).2 (ha g ((h.1.1 g).2 hg))⟩,h.2⟩
def AllD (w:World):(Nat->Prop)->List Th->Prop
 | _,[]=>True
 | T,x :: ds=>∃own,ThOk own w x/\(∀g,own g->T g)/\AllD w (fun g=>T g/\¬own g) ds
def AllD.mono {w:World}:∀{ds:List Th} {T T':Nat->Prop},AllD w T ds->(∀g,g < w.heap.size->T g->T' g)->AllD w T' ds
 | [],_,_,_,_=>trivial
 | _ :: _,_,_,⟨own,h1,h2,h3⟩,h=>⟨own,h1,fun g hg=>h g (h1.low g hg) (h2 g hg),h3.mono fun g hg k=>⟨h g hg k.1,k.2⟩⟩
def AllD.turn {w w':World} {own2:Nat->Prop} (hu:Turn own2 w w') (hl:∀g,own2 g->Loose w g):∀{ds:List Th} {T:Nat->Prop},AllD w T ds->(∀g,T g->¬own2 g)->AllD w' T ds
 | [],_,_,_=>trivial
 | _ :: _,_,⟨own,h1,h2,h3⟩,h=>⟨own,h1.turn hu hl (fun g hg=>h g (h2 g hg)),h2,h3.turn hu hl fun g k=>h g k.1⟩
structure Lv (w0 w:World) (ds:List Th):Prop where
 bl:qW w0 w
 all:AllD w (fun g=>w0.heap.size<=g) ds
section
variable {w0 w w':World} {p q:Nat} {M K:Mo} {ds:List Th}
theorem Lv.nil (w:World):Lv w w []:=⟨Below.refl _ _,trivial⟩
theorem Lv.on (h:Lv w0 w ds) (hb:qW w w'):Lv w0 w' ds :=
 ⟨h.bl.trans (hb.mono h.bl.size),h.all.turn (own2:=fun _=>False) (Turn.of_below hb) (fun _ k=>k.elim) (fun _ _ k=>k)⟩
theorem Lv.ahead (h:Lv w w' ds) (hb:qW w0 w):Lv w0 w' ds :=
 ⟨hb.trans (h.bl.mono hb.size),h.all.mono fun _ _ k=>Nat.le_trans hb.size k⟩
theorem Lv.gd (h:Lv w0 w ds) (hG:Gd w0):Gd w:=hG.kept h.bl
theorem Lv.headR (h:Lv w0 w (.r p M :: ds)):∃own,RDk own w p M/\(∀g,own g->w0.heap.size<=g):=by
 obtain ⟨own,h1,h2,h3⟩:=h.all;exact ⟨own,h1,h2⟩
theorem Lv.stepT {x:Th} (h:Lv w0 w (x :: ds)):∃own,ThOk own w x/\(∀g,own g->w0.heap.size<=g)/\∀w' y own',ThOk own' w' y->Turn own w w'->(∀g,own' g->own g∨w.heap.size<=g)->Lv w0 w' (y :: ds):=by
 obtain ⟨own,h1,h2,h3⟩:=h.all;refine ⟨own,h1,h2,fun w' y own' k1 k2 k3=>?_⟩;refine ⟨h.bl.trans (k2.below h2 h.bl.size),own',k1,fun g hg=>?_,?_⟩
 . rcases k3 g hg with e | e
   . exact h2 g e
   exact Nat.le_trans h.bl.size e
 have:=AllD.mono (T':=fun g=>(w0.heap.size<=g/\¬own g)/\g < w.heap.size) h3 (fun g a b=>⟨b,a⟩);refine (this.turn k2 h1.loose fun g k=>k.1.2).mono fun g _ k=>⟨k.1.1,fun e=>?_⟩
 rcases k3 g e with a | a
 . exact k.1.2 a
 exact absurd k.2 (by omega)
theorem Lv.step (h:Lv w0 w (.d p M :: ds)):∃own,Dsk own w p M/\(∀g,own g->w0.heap.size<=g)/\∀w' K,DPost own w p K w'->Lv w0 w' (.d p K :: ds):=by
 obtain ⟨own,h1,h2,h3⟩:=h.stepT;exact ⟨own,h1,h2,fun w' K ⟨own',k1,k2,k3⟩=>h3 w' (.d p K) own' k1 k2 k3⟩
theorem Lv.stepR (h:Lv w0 w (.r p M :: ds)):∃own,RDk own w p M/\(∀g,own g->w0.heap.size<=g)/\∀w' K,RPost own w p K w'->Lv w0 w' (.r p K :: ds):=by
 obtain ⟨own,h1,h2,h3⟩:=h.stepT;exact ⟨own,h1,h2,fun w' K ⟨own',k1,k2,k3⟩=>h3 w' (.r p K) own' k1 k2 k3⟩
theorem Lv.push {y:Th} (h:Lv w0 w ds) {own:Nat->Prop} (hd:ThOk own w' y) (ho:∀g,own g->w.heap.size<=g) (hb:qW w w'):Lv w0 w' (y :: ds):=by
 refine ⟨h.bl.trans (hb.mono h.bl.size),own,hd,fun g hg=>Nat.le_trans h.bl.size (ho g hg),?_⟩;have h1:=AllD.mono (T':=fun g=>w0.heap.size<=g/\g < w.heap.size) h.all (fun g a b=>⟨b,a⟩);exact (h1.turn (own2:=fun _=>False) (Turn.of_below hb) (fun g k=>k.elim) (fun g _ k=>k)).mono fun g _ k=>⟨k.1,fun e=>absurd (ho g e) (by have:=k.2;omega)⟩
theorem Lv.swap {x y:Th} (h:Lv w0 w (x :: y :: ds)):Lv w0 w (y :: x :: ds):=by
 obtain ⟨own,h1,h2,own',h3,h4,h5⟩:=h.all;exact ⟨h.bl,own',h3,fun g hg=>(h4 g hg).1,own,h1,fun g hg=>⟨h2 g hg,fun e=>(h4 g e).2 hg⟩,h5.mono fun g _ k=>⟨⟨k.1.1,k.2⟩,k.1.2⟩⟩
theorem Lv.drop {x:Th} (h:Lv w0 w (x :: ds)):Lv w0 w ds:=by
 obtain ⟨own,h1,h2,h3⟩:=h.all;exact ⟨h.bl,h3.mono fun g _ k=>k.1⟩
variable (h:Lv w0 w (.d q M :: ds)) (hG:Gd w0)
include h hG
omit hG
end
def ll {w0 w:World} {ds:List Th} (h:Lv w0 w ds) (room:Nat) (r0:1024<=room) (r1:room<=1048576) :
 qC 34 #[.int .i64 (room:Int)] w fun e w'=>∃p,e=.returned (.tuple #[.pointer (some ⟨p,0,none⟩),.int .i64 0])/\Lv w0 w' (.d p (newM room) :: ds):=by
 refine (Wt room w r0 r1).mono ?_;rintro e w' ⟨own,p,rfl,k1,k2,k3⟩;exact ⟨p,rfl,h.push (y:=.d p _) k1 k2 k3⟩
def AllD.get {w:World}:∀{ds:List Th} {T:Nat->Prop},AllD w T ds->∀{x:Th},x∈ds->∃own,ThOk own w x
 | [],_,_,_,h=>by cases h
 | _ :: _,_,⟨own,h1,_,h3⟩,_,h=>by
  rcases List.mem_cons.1 h with e | e
  . subst e;exact ⟨own,h1⟩
  exact h3.get e
def Lv.hasH {w0 w:World} {ds:List Th} (h:Lv w0 w ds) {b:Nat} {t:TypeId} {cs:Array Value} (hm:.h b t cs∈ds):Has w b t cs:=by
 obtain ⟨own,h1⟩:=h.all.get hm;exact h1.1.2.2
def Lv.hasS {w0 w:World} {ds:List Th} (h:Lv w0 w ds) {v:Value} {e:TypeId} {sz n:Nat} {xs:List Value} (hm:.s v e sz n xs∈ds):w.ownsRow 0 e sz v n xs:=by
 obtain ⟨own,h1⟩:=h.all.get hm;exact h1.1.2
def Lv.srow {w0 w w':World} {ds:List Th} (h:Lv w0 w ds) {B:Nat} {v:Value} {e:TypeId} {sz n:Nat} {xs:List Value} (hr:w'.ownsRow B e sz v n xs) (hB:w.heap.size<=B) (hb:qW w w') (ht:¬lB e):Lv w0 w' (.s v e sz n xs :: ds):=by
 refine h.push (y:=.s v e sz n xs) (own:=fun g=>v.ownBlock=some g) ⟨⟨fun _=>Iff.rfl,hr.1,?_⟩,ht⟩ (fun g hg=>Nat.le_trans hB (World.ownsRow.lt hr g hg).1) hb;rcases hr.2 with h1 | ⟨g,c,cur,h1,h2,h3⟩
 . exact .inl h1
 exact .inr ⟨g,c,cur,h1,Nat.zero_le _,h3⟩
def Lv.headD {w0 w:World} {p:Nat} {M:Mo} {ds:List Th} (h:Lv w0 w (.d p M :: ds)):∃own,Dsk own w p M:=by
 obtain ⟨own,h1,_⟩:=h.all;exact ⟨own,h1⟩
open Go.RowKit Go.Maps
def AllD.perm {w:World} {ds ds':List Th} (hp:ds.Perm ds'):∀{T:Nat->Prop},AllD w T ds->AllD w T ds':=by
 induction hp with
 | nil=>exact fun h=>h
 | cons x _ ih=>rintro T ⟨own,h1,h2,h3⟩;exact ⟨own,h1,h2,ih h3⟩
 | swap x y l=>rintro T ⟨own,h1,h2,own',h3,h4,h5⟩;exact ⟨own',h3,fun g hg=>(h4 g hg).1,own,h1,fun g hg=>⟨h2 g hg,fun e=>(h4 g e).2 hg⟩,h5.mono fun g _ k=>⟨⟨k.1.1,k.2⟩,k.1.2⟩⟩
 | trans _ _ ih1 ih2=>exact fun h=>ih2 (ih1 h)
section
variable {w0 w:World} {x y z:Th} {ds:List Th}
theorem Lv.back (h:Lv w0 w (x :: y :: z :: ds)):Lv w0 w (y :: z :: x :: ds):=⟨h.bl,h.all.perm ((List.perm_append_comm (l₁:=[x]) (l₂:=[y,z])).append_right ds)⟩
theorem Lv.front (h:Lv w0 w (y :: z :: x :: ds)):Lv w0 w (x :: y :: z :: ds):=⟨h.bl,h.all.perm ((List.perm_append_comm (l₁:=[y,z]) (l₂:=[x])).append_right ds)⟩
theorem Lv.drop3 (h:Lv w0 w (y :: z :: x :: ds)):Lv w0 w (y :: z :: ds):=h.front.drop
end
section
variable {w0 w:World} {q:Nat} {M:Mo} {ds:List Th}
def Yd (w0 w:World) (q:Nat) (ds:List Th) (M:Mo) (y:Eff) (e:Ending) (w':World):Prop:=e=.returned (.int .i64 (bL M y).1)/\Lv w0 w' (.d q (bL M y).2 :: ds)/\Gx w w'
def Mc (w0 w:World) (q:Nat) (ds:List Th) (M:Mo) (y:Eff) (e:Ending) (w':World):Prop:=e=.returned (.int .i64 (bL M y).1)/\Lv w0 w' (.r q (bL M y).2 :: ds)/\Gx w w'
theorem Dk (h:Lv w0 w (.d q M :: ds)) (hG:Gd w0) (p d:By) (tm:Int) (hp:p.length<=4000) (hd:d.length<=1000000) (f8:M.since.length+1<=100000) :
 qC 39 #[.pointer (some ⟨q,0,none⟩),kS p,kS d,.int .i64 tm] w fun e w'=>Yd w0 w q ds M (.write p d tm) e w':=by
 obtain ⟨own,h1,_,h2⟩:=h.step;refine (Jo h1 (h.gd hG) p d tm hp hd f8).mono fun e w' k=>⟨k.1,h2 _ _ k.2,?_⟩
 obtain ⟨_,_,k2,_⟩:=k.2;exact Gx.of_turn k2 h1.loose
theorem Kc (h:Lv w0 w (.d q M :: ds)) (hG:Gd w0) (p d:By) (tm:Int) (hp:p.length<=4000) (hd:d.length<=1000000) (f8:M.since.length+1<=100000) :
 qC 40 #[.pointer (some ⟨q,0,none⟩),kS p,kS d,.int .i64 tm] w fun e w'=>Yd w0 w q ds M (.link p d tm) e w':=by
 obtain ⟨own,h1,_,h2⟩:=h.step;refine (Nm h1 (h.gd hG) p d tm hp hd f8).mono fun e w' k=>⟨k.1,h2 _ _ k.2,?_⟩
 obtain ⟨_,_,k2,_⟩:=k.2;exact Gx.of_turn k2 h1.loose
theorem wR (h:Lv w0 w (.d q M :: ds)) (hG:Gd w0) (p:By) (hp:p.length<=4000) (f8:M.since.length+1<=100000) :
 qC 37 #[.pointer (some ⟨q,0,none⟩),kS p] w fun e w'=>Yd w0 w q ds M (.mkdir p) e w':=by
 obtain ⟨own,h1,_,h2⟩:=h.step;refine (Ll h1 (h.gd hG) p hp f8).mono fun e w' k=>⟨k.1,h2 _ _ k.2,?_⟩
 obtain ⟨_,_,k2,_⟩:=k.2;exact Gx.of_turn k2 h1.loose
theorem iq (h:Lv w0 w (.r q M :: ds)) (e:Rw) (he:RwOk e) (hp:e.p.length<=4000) (hq:e.q.length<=4000) (f8:M.since.length+1<=100000) :
 qC 38 #[.pointer (some ⟨q,0,none⟩),.agg (rwC e)] w fun en w'=>Mc w0 w q ds M (xJ e) en w':=by
 obtain ⟨own,h1,_,h2⟩:=h.stepR;refine (ae h1 e he hp hq f8).mono fun en w' k=>⟨k.1,h2 _ _ k.2,?_⟩
 obtain ⟨_,_,k2,_⟩:=k.2;exact Gx.of_turn k2 h1.loose
theorem Mk (h:Lv w0 w (.r q M :: ds)) (p:By) (hp:p.length<=4000) (f8:M.since.length+1<=100000) :
 qC 38 #[.pointer (some ⟨q,0,none⟩),.agg #[.int .i64 3,kS p,.string ⟨#[]⟩,.string ⟨#[]⟩,.int .i64 0,.int .i64 0,.bool false]] w fun en w'=>Mc w0 w q ds M (.mkdir p) en w' :=
 iq h ⟨3,p,[],[],0⟩ ⟨by show (1:Int)<=(3:Int);decide,by show (3:Int)<=6;decide,by simp,.inr (.inl rfl)⟩ hp (by simp) f8
theorem Vz (h:Lv w0 w (.r q M :: ds)) (p d:By) (tm:Int) (hp:p.length<=4000) (hd:d.length<=1000000) (f8:M.since.length+1<=100000) :
 qC 38 #[.pointer (some ⟨q,0,none⟩),.agg #[.int .i64 1,kS p,.string ⟨#[]⟩,kS d,.int .i64 tm,.int .i64 0,.bool false]] w fun en w'=>Mc w0 w q ds M (.write p d tm) en w' :=
 iq h ⟨1,p,[],d,tm⟩ ⟨by show (1:Int)<=(1:Int);decide,by show (1:Int)<=6;decide,by show d.length<=_;omega,.inl rfl⟩ hp (by simp) f8
theorem Wq (h:Lv w0 w (.r q M :: ds)) (p d:By) (tm:Int) (hp:p.length<=4000) (hd:d.length<=1000000) (f8:M.since.length+1<=100000) :
 qC 38 #[.pointer (some ⟨q,0,none⟩),.agg #[.int .i64 4,kS p,.string ⟨#[]⟩,kS d,.int .i64 tm,.int .i64 0,.bool false]] w fun en w'=>Mc w0 w q ds M (.link p d tm) en w' :=
 iq h ⟨4,p,[],d,tm⟩ ⟨by show (1:Int)<=(4:Int);decide,by show (4:Int)<=6;decide,by show d.length<=_;omega,.inr (.inr rfl)⟩ hp (by simp) f8
theorem jf {w0 w:World} {ds:List Th} (h:Lv w0 w ds) (room:Nat) (r0:1024<=room) (r1:room<=1048576) :
 qC 35 #[.int .i64 (room:Int)] w fun e w'=>∃r,e=.returned (.pointer (some ⟨r,0,none⟩))/\Lv w0 w' (.r r (newM room) :: ds):=by
 refine (Nj w room r0 r1).mono ?_;rintro e w' ⟨own,r,rfl,k1,k2,k3⟩;exact ⟨r,rfl,h.push (y:=.r r _) k1 k2 k3⟩
theorem StrR.gx {B:Nat} {w w':World} {v:Value} {xs:List By} (h:StrR B w v xs) (k:Gx w w'):StrR B w' v xs:=row_of h fun g hg=>by
 obtain ⟨cur,hc⟩:=bI h hg;exact (k.2 g cur _ _ hc (.inl rfl)).trans hc.symm
end
structure bS where
 kind:Int
 p:By
 text:By
 long:Int
 time:Int
def put0:bS:=⟨0,[],[],0,0⟩
structure PutOk (x:bS):Prop where
 p:x.p.length<=140737488351232
 text:x.text.length<=140737488351232
 l0:-9223372036854775808<=x.long
 l1:x.long<=9223372036854775807
def Vn (x:bS):Array Value:=#[.int .i64 x.kind,kS x.p,kS x.text,.int .i64 x.long,.int .i64 x.time]
structure PutAt (w:World) (bb o:Nat) (x:bS):Prop where
 c0:w.cell? ⟨bb,o,none⟩=some (.int .i64 x.kind)
 c1:w.cell? ⟨bb,o+1,none⟩=some (kS x.p)
 c2:w.cell? ⟨bb,o+2,none⟩=some (kS x.text)
 c3:w.cell? ⟨bb,o+3,none⟩=some (.int .i64 x.long)
 c4:w.cell? ⟨bb,o+4,none⟩=some (.int .i64 x.time)
def PutAt.on {w w':World} {bb o:Nat} {x:bS} (h:PutAt w bb o x) (hb:qW w w'):PutAt w' bb o x:=by
 have k:bb < w.heap.size:=block_lt_of_cell (a:=⟨bb,o,none⟩) h.c0;exact ⟨(hb.cell (p:=⟨bb,o,none⟩) k).trans h.c0,(hb.cell (p:=⟨bb,o+1,none⟩) k).trans h.c1,(hb.cell (p:=⟨bb,o+2,none⟩) k).trans h.c2,(hb.cell (p:=⟨bb,o+3,none⟩) k).trans h.c3,(hb.cell (p:=⟨bb,o+4,none⟩) k).trans h.c4⟩
def PutAt.load {w:World} {bb o:Nat} {x:bS} (h:PutAt w bb o x):(loadVar 89 ⟨bb,o,none⟩).run Tryz.prog w=.ok (.agg (Vn x)) w:=by
 refine run_loadVar_mid (P:=Tryz.prog) w bb o 89 (Vn x).toList _ (fun j u hj=>?_) Tryz.underlying89 rfl (by show _=some 5;kernel_rfl);match j,hj with
 | 0,hj=>obtain rfl:=Option.some.inj hj;exact h.c0
 | 1,hj=>obtain rfl:=Option.some.inj hj;exact h.c1
 | 2,hj=>obtain rfl:=Option.some.inj hj;exact h.c2
 | 3,hj=>obtain rfl:=Option.some.inj hj;exact h.c3
 | 4,hj=>obtain rfl:=Option.some.inj hj;exact h.c4
 | j+5,hj=>simp [Vn] at hj
structure mA (w:World) (A:Option Addr) (n bb off:Nat) (xs:List bS):Prop where
 len:xs.length=n
 src:0 < n->A=some ⟨bb,off,none⟩/\bb < w.heap.size
 at_:∀i,i < n->PutAt w bb (off+i*5) (xs.getD i put0)
 ok:∀x∈xs,PutOk x
def mA.on {w w':World} {A:Option Addr} {n bb off:Nat} {xs:List bS} (h:mA w A n bb off xs) (hb:qW w w'):mA w' A n bb off xs :=
 ⟨h.len,fun h0=>⟨(h.src h0).1,Nat.lt_of_lt_of_le (h.src h0).2 hb.size⟩,fun i hi=>(h.at_ i hi).on hb,h.ok⟩
def put_mem {xs:List bS} {k:Nat} (h:k < xs.length):xs.getD k put0∈xs:=by
 rw [List.getD,List.getElem?_eq_getElem h];exact List.getElem_mem h
def iw (x:bS):Nat:=if x.text.length=0 then 0 else min x.long.toNat 6000
def pT (t:By) (k:Nat):By:=(List.range k).map fun i=>at8 t (i % t.length)
@[irreducible] def wP (x:bS):By:=pT x.text (iw x)
def vB (t:By) (k:Nat):(pT t k).length=k:=by simp [pT]
def Od (t:By) (k:Nat):pT t (k+1)=pT t k++[at8 t (k % t.length)]:=by simp [pT,List.range_succ]
def dm (x:bS):(wP x).length<=6000:=by unfold wP;rw [vB];unfold iw;split<;>omega
def eN (M:Mo) (l:List By):Mo:=l.foldl (fun M q=>(bL M (.mkdir q)).2) M
def Le (M:Mo) (l:List By) (q:By):eN M (l++[q])=(bL (eN M l) (.mkdir q)).2:=by simp [eN,List.foldl_append]
def sS (x:bS):Option Eff:=if x.kind=1 then some (.write x.p (wP x) x.time) else if x.kind=2 then some (.mkdir x.p) else if x.kind=3 then some (.link x.p x.text x.time) else none
def iN (M:Mo) (x:bS):Mo:=match sS x with
 | some y=>(bL (eN M (waysL x.p).dropLast) y).2
 | none=>eN M (waysL x.p).dropLast
def cN (xs:List bS):Mo:=xs.foldl iN (newM 262144)
def Ji (xs:List bS) (x:bS):cN (xs++[x])=iN (cN xs) x:=by simp [cN,List.foldl_append]
def pX (l:List By):∀M:Mo,(eN M l).since.length<=M.since.length+l.length:=by
 induction l with
 | nil=>exact fun _=>Nat.le_refl _
 | cons q l ih =>
  intro M;have h1:=ih (bL M (.mkdir q)).2;have h2:=Eo M (.mkdir q);show (eN (bL M (.mkdir q)).2 l).since.length<=_
  rw [List.length_cons];omega
def Rc (M:Mo) (x:bS):(iN M x).since.length<=M.since.length+202:=by
 have h1:=pX (waysL x.p).dropLast M;have h2:=zG x.p;rw [List.length_dropLast] at h1;unfold iN;split
 . rename_i y _
   have h3:=Eo (eN M (waysL x.p).dropLast) y;omega
 omega
def Kl (xs:List bS):(cN xs).since.length<=xs.length*202:=by
 have:∀(xs:List bS) (M:Mo),(xs.foldl iN M).since.length<=M.since.length+xs.length*202:=by
  intro xs;induction xs with
  | nil=>intro M;simp
  | cons x xs ih =>
   intro M;have h1:=ih (iN M x);have h2:=Rc M x;rw [List.foldl_cons,List.length_cons,Nat.add_mul];omega
 have h:=this xs (newM 262144);have e:(newM 262144).since.length=0:=rfl;unfold cN;omega
def Fq (p:By):∀q∈waysL p,q.length<=p.length:=by
 intro q hq;unfold waysL at hq;rcases List.mem_append.1 hq with h | h
 . unfold dD at h
   obtain ⟨i,_,rfl⟩:=List.mem_map.1 h;rw [List.length_take];omega
 rw [List.mem_singleton] at h;rw [h];exact Nat.le_refl _
end Go.Proofs.YtahkcemdbfjilaaGreatDoor
namespace Go.Proofs.YtahkcemdbfjilaaGreatDoor.Glob
open Go.RowKit Go.Maps
structure kI (w:World) (A:Option Addr) (n bb off:Nat) (fs:Fl):Prop where
 len:fs.length=n
 src:0 < n->A=some ⟨bb,off,none⟩/\bb < w.heap.size
 at_:∀i (hi:i < fs.length),w.cell? ⟨bb,off+i*2,none⟩=some (.string (ba fs[i].1))/\w.cell? ⟨bb,off+i*2+1,none⟩=some (.string (ba fs[i].2))
 ok:∀i (hi:i < fs.length),fs[i].1.length<=maxLen/\fs[i].2.length<=maxLen
def kI.stays {w w':World} {A:Option Addr} {n bb off:Nat} {fs:Fl} (h:kI w A n bb off fs) (hb:qW w w'):kI w' A n bb off fs:=by
 refine ⟨h.len,fun h0=>⟨(h.src h0).1,Nat.lt_of_lt_of_le (h.src h0).2 hb.size⟩,fun i hi=>?_,h.ok⟩;have k:=(h.src (by rw [<-h.len];omega)).2;exact ⟨(hb.cell (p:=⟨bb,off+i*2,none⟩) k).trans (h.at_ i hi).1,(hb.cell (p:=⟨bb,off+i*2+1,none⟩) k).trans (h.at_ i hi).2⟩
end Go.Proofs.YtahkcemdbfjilaaGreatDoor.Glob
namespace Go.Proofs.YtahkcemdbfjilaaGreatDoor
open Go.RowKit Go.Maps
def eQ (xs:List bS):Nat:=(xs.map fun x=>x.text.length+20*x.p.length).sum
def eS (fs:Glob.Fl):Nat:=(fs.map fun f=>f.2.length+f.1.length).sum
def Tb (xs:List bS) (x:bS):eQ (xs++[x])=eQ xs+(x.text.length+20*x.p.length):=by simp [eQ]
def Bb (fs:Glob.Fl) (f:By × By):eS (fs++[f])=eS fs+(f.2.length+f.1.length):=by simp [eS]
def bG (xs:List bS) (fs:Glob.Fl):Bool:=decide (40 < xs.length)||decide (10 < fs.length)||decide (8000 < eQ (xs.take 50)+eS (fs.take 50))
def Ui {xs:List bS} {x:bS} (h:x∈xs):x.text.length+20*x.p.length<=eQ xs:=by
 induction xs with
 | nil=>cases h
 | cons y xs ih =>
  have e:eQ (y :: xs)=(y.text.length+20*y.p.length)+eQ xs:=by simp [eQ]
  rcases List.mem_cons.1 h with k | k
  . subst k;omega
  have:=ih k;omega
def Uq {fs:Glob.Fl} {f:By × By} (h:f∈fs):f.2.length+f.1.length<=eS fs:=by
 induction fs with
 | nil=>cases h
 | cons y xs ih =>
  have e:eS (y :: xs)=(y.2.length+y.1.length)+eS xs:=by simp [eS]
  rcases List.mem_cons.1 h with k | k
  . subst k;omega
  have:=ih k;omega
def uM {xs:List bS} {fs:Glob.Fl} (h:bG xs fs=false):xs.length<=40/\fs.length<=10/\(∀x∈xs,x.p.length<=400/\x.text.length<=8000)/\∀f∈fs,f.1.length<=8000/\f.2.length<=8000:=by
 unfold bG at h;simp only [Bool.or_eq_false_iff,decide_eq_false_iff_not] at h;obtain ⟨⟨h1,h2⟩,h3⟩:=h;rw [List.take_of_length_le (by omega),List.take_of_length_le (by omega)] at h3;refine ⟨by omega,by omega,fun x hx=>?_,fun f hf=>?_⟩
 . have:=Ui hx;omega
 have:=Uq hf;omega
def Yx {xs:List bS} {c:Nat} (h:∀x∈xs,x.text.length+20*x.p.length<=c):eQ xs<=xs.length*c:=by
 induction xs with
 | nil=>simp [eQ]
 | cons y xs ih =>
  have e:eQ (y :: xs)=(y.text.length+20*y.p.length)+eQ xs:=by simp [eQ]
  have h1:=h y List.mem_cons_self;have h2:=ih fun x hx=>h x (List.mem_cons_of_mem _ hx)
  rw [e,List.length_cons,Nat.add_mul];omega
def bo {fs:Glob.Fl} {c:Nat} (h:∀f∈fs,f.2.length+f.1.length<=c):eS fs<=fs.length*c:=by
 induction fs with
 | nil=>simp [eS]
 | cons y xs ih =>
  have e:eS (y :: xs)=(y.2.length+y.1.length)+eS xs:=by simp [eS]
  have h1:=h y List.mem_cons_self;have h2:=ih fun x hx=>h x (List.mem_cons_of_mem _ hx)
  rw [e,List.length_cons,Nat.add_mul];omega
def Ob {xs:List bS} (h:∀x∈xs,PutOk x) (k:Nat) (hk:k<=50):eQ (xs.take k)<=200000000000000000:=by
 have h1:=Yx (xs:=xs.take k) (c:=3000000000000000) fun x hx=>by
  have h1:=h x (List.mem_of_mem_take hx);have h2:=h1.p;have h3:=h1.text;omega
 have h2:(xs.take k).length*3000000000000000<=50*3000000000000000:=Nat.mul_le_mul_right _ (by rw [List.length_take];omega);exact Nat.le_trans h1 (Nat.le_trans h2 (by decide))
def Ny {fs:Glob.Fl} (h:∀f∈fs,f.1.length<=140737488351232/\f.2.length<=140737488351232) (k:Nat) (hk:k<=50):eS (fs.take k)<=200000000000000000:=by
 have h1:=bo (fs:=fs.take k) (c:=3000000000000000) fun x hx=>by
  have h1:=h x (List.mem_of_mem_take hx);omega
 have h2:(fs.take k).length*3000000000000000<=50*3000000000000000:=Nat.mul_le_mul_right _ (by rw [List.length_take];omega);exact Nat.le_trans h1 (Nat.le_trans h2 (by decide))
def Qq {A A2:Option Addr} {n n2 cap cap2 bb oe off off2:Nat} {xs:List bS} {fs:Glob.Fl} (w:World) (hI:mA w A n bb off xs) (hF:Glob.kI w A2 n2 oe off2 fs) (G7:∀f∈fs,f.1.length<=140737488351232/\f.2.length<=140737488351232) (hn:n<=maxLen) (AG:n2<=maxLen) :
 qC 8 #[.slice A n cap,.slice A2 n2 cap2] w fun e w'=>e=.returned (.bool (bG xs fs))/\qW w w':=by
 have H:=hid hI;have HF:=hid hF;have K0:=hid hI.len;have pj:=hid hF.len;have ID:(n:Int)<=9223372036854775807:=by unfold maxLen at hn;omega
 have hnb2:(n2:Int)<=9223372036854775807:=by unfold maxLen at AG;omega
 have zy:=hid (fun k hk=>Ob hI.ok k hk);have C6:=hid (fun k hk=>Ny G7 k hk);have PK:=hid G7;clear hI hF G7;go_enter Tryz.func8,Tryz.ntmps8
 go_wp2;go_loopw [5,6] (fun v5 v6 wr=>∃k m:Nat,v6=.int .i64 (k:Int)/\v5=.int .i64 (m:Int)/\k<=n/\k<=50/\Hid (eQ (xs.take k)=m)/\Hid (qW w wr)) (fun _ v6 _=>n - (intOf v6).toNat)
 case atStart=>exact ⟨0,0,rfl,rfl,by omega,by omega,rfl,Below.refl _ _⟩
 obtain ⟨k,m,rfl,rfl,hk,vg,J1,J2⟩:=hrel;have CX:m<=200000000000000000:=by rw [<-J1.o];exact zy.o k vg
 by_cases d8:k < n
 .
  by_cases p5:k < 50
  .
   have hA:=(H.o.src (by omega)).1;subst hA;have o3:k < xs.length:=by rw [K0.o];exact d8
   have HX:=hid ((H.o.at_ k d8).on J2.o);have L0:=hid (H.o.ok _ (put_mem o3));have HN:Hid (eQ (xs.take (k+1))=m+((xs.getD k put0).text.length+20*(xs.getD k put0).p.length)):=by
    show _=_
    rw [List.take_succ_eq_append_getElem o3,Tb,J1.o,List.getD,List.getElem?_eq_getElem o3];rfl
   generalize xs.getD k put0=x at HX L0 HN;obtain ⟨kd,P,T,lg,tm⟩:=x;have zp:=L0.o.p;have zt:=L0.o.text;simp only at zp zt;dsimp only at HN;have e1:(ba P).size=P.length:=aD P;have e3:(ba T).size=T.length:=aD T;have w1:IntKind.i64.wrap ((k:Int)+1)=(k:Int)+1:=aM _ (by omega) (by omega);have w2:IntKind.i64.wrap (20*(P.length:Int))=20*(P.length:Int):=aM _ (by omega) (by omega);have w3:IntKind.i64.wrap ((m:Int)+(T.length:Int))=(m:Int)+(T.length:Int):=aM _ (by omega) (by omega);have w4:IntKind.i64.wrap ((m:Int)+(T.length:Int)+20*(P.length:Int))=(m:Int)+(T.length:Int)+20*(P.length:Int):=aM _ (by omega) (by omega);have ni:(k:Int) < (n:Int):=by omega
   have hle':(k:Int) < 50:=by omega
   have h0:(0:Int)<=(k:Int):=by omega
   have PN:Hid (PutAt wr.drew bb (off+k*5) ⟨kd,P,T,lg,tm⟩):=HX.o.on qB.drew;clear L0;go_wp2;refine qG (S:=fun W=>PutAt W bb (off+k*5) ⟨kd,P,T,lg,tm⟩) (by kernel_rfl) (PN.o) (fun hS=>?_);refine aG 0 ?_
   iterate 17
    refine qT rfl (by kernel_rfl) ‹_› (fun w a8=>by have c1:=a8.c1;have c2:=a8.c2;go_simp;with_reducible rfl) ?_;simp only [Act.put,aB,aA,aC,Nat.reduceAdd]
   refine aE ?_;refine qM (by kernel_rfl) ?_;go_wp2;go_roundw
   case rel=>exact ⟨k+1,m+(T.length+20*P.length),by go_num,by congr 1;omega,by omega,by omega,HN.o,J2.o.drew⟩
   case measure=>simp [intOf];omega
  have hgt:¬(k:Int) < 50:=by omega
  have ni:(k:Int) < (n:Int):=by omega
  have HE:Hid (eQ (xs.take 50)=m):=by show _=_;rw [<-J1.o,show k=50 by omega]
  have hmb2:m<=200000000000000000:=CX;clear CX;go_wp2;obtain ⟨wA,rfl⟩:∃wA,wA=wr:=⟨_,rfl⟩;go_loopw [5,7] (fun v5 v7 wr=>∃k m2:Nat,v7=.int .i64 (k:Int)/\v5=.int .i64 (m2:Int)/\k<=n2/\k<=50/\Hid (m+eS (fs.take k)=m2)/\Hid (qW w wr)) (fun _ v7 _=>n2 - (intOf v7).toNat)
  case atStart=>exact ⟨0,m,rfl,rfl,by omega,by omega,rfl,J2.o⟩
  obtain ⟨k,m2,rfl,rfl,hk,vg,K1,K2⟩:=hrel;have CX:m2<=400000000000000000:=by have:=K1.o;have:=C6.o k vg;omega
  by_cases j4:k < n2
  .
   by_cases hle2:k < 50
   .
    have hA:=(HF.o.src (by omega)).1;subst hA;have o3:k < fs.length:=by rw [pj.o];exact j4
    have um:=(HF.o.src (by omega)).2;have HX:Hid (wr.cell? ⟨oe,off2+k*2,none⟩=some (.string (ba fs[k].1))/\wr.cell? ⟨oe,off2+k*2+1,none⟩=some (.string (ba fs[k].2))) :=
     ⟨(K2.o.cell (p:=⟨oe,off2+k*2,none⟩) um).trans (HF.o.at_ k o3).1,(K2.o.cell (p:=⟨oe,off2+k*2+1,none⟩) um).trans (HF.o.at_ k o3).2⟩
    have L0:=PK.o _ (List.getElem_mem o3);have HN:Hid (m+eS (fs.take (k+1))=m2+(fs[k].2.length+fs[k].1.length)):=by
     show _=_
     rw [List.take_succ_eq_append_getElem o3,Bb,<-K1.o];omega
    generalize fs[k]=x at HX L0 HN;obtain ⟨P,T⟩:=x;dsimp only at HN L0 HX;obtain ⟨zp,zt⟩:=L0;have e1:(ba P).size=P.length:=aD P;have e3:(ba T).size=T.length:=aD T;have w1:IntKind.i64.wrap ((k:Int)+1)=(k:Int)+1:=aM _ (by omega) (by omega);have w3:IntKind.i64.wrap ((m2:Int)+(T.length:Int))=(m2:Int)+(T.length:Int):=aM _ (by omega) (by omega);have w4:IntKind.i64.wrap ((m2:Int)+(T.length:Int)+(P.length:Int))=(m2:Int)+(T.length:Int)+(P.length:Int):=aM _ (by omega) (by omega);have BI:(k:Int) < (n2:Int):=by omega
    have hle2':(k:Int) < 50:=by omega
    have h02:(0:Int)<=(k:Int):=by omega
    have PN:Hid (wr.drew.cell? ⟨oe,off2+k*2,none⟩=some (.string (ba P))/\wr.drew.cell? ⟨oe,off2+k*2+1,none⟩=some (.string (ba T))):=HX.o;go_wp2;refine qG (S:=fun W=>W.cell? ⟨oe,off2+k*2,none⟩=some (.string (ba P))/\W.cell? ⟨oe,off2+k*2+1,none⟩=some (.string (ba T))) (by kernel_rfl) (PN.o) (fun hS=>?_);refine aG 0 ?_
    iterate 16
     refine qT rfl (by kernel_rfl) ‹_› (fun w a8=>by have c1:=a8.1;have c2:=a8.2;go_simp;with_reducible rfl) ?_;simp only [Act.put,aB,aA,aC,Nat.reduceAdd]
    refine aE ?_;refine qM (by kernel_rfl) ?_;go_wp2;go_roundw
    case rel=>exact ⟨k+1,m2+(T.length+P.length),by go_num,by congr 1;omega,by omega,by omega,HN.o,K2.o.drew⟩
    case measure=>simp [intOf];omega
   have JS:¬(k:Int) < 50:=by omega
   have BI:(k:Int) < (n2:Int):=by omega
   have j7:Hid (eQ (xs.take 50)+eS (fs.take 50)=m2):=by show _=_;rw [<-K1.o,HE.o,show k=50 by omega]
   have HB:Hid (bG xs fs=(decide (40 < n)||decide (10 < n2)||decide (8000 < m2))):=by show _=_;unfold bG;rw [j7.o,K0.o,pj.o]
   by_cases f1:40 < n
   . have JT:(40:Int) < (n:Int):=by omega
     have HR:Hid (bG xs fs=true):=by show _=_;rw [HB.o,decide_eq_true f1];rfl
     go_wp2;go_ret;exact ⟨by rw [HR.o];rfl,K2.o⟩
   have JT:¬(40:Int) < (n:Int):=by omega
   by_cases f2:10 < n2
   . have JU:(10:Int) < (n2:Int):=by omega
     have HR:Hid (bG xs fs=true):=by show _=_;rw [HB.o,decide_eq_true f2];simp
     go_wp2;go_ret;exact ⟨by rw [HR.o];rfl,K2.o⟩
   have JU:¬(10:Int) < (n2:Int):=by omega
   by_cases f3:8000 < m2
   . have JV:(8000:Int) < (m2:Int):=by omega
     have HR:Hid (bG xs fs=true):=by show _=_;rw [HB.o,decide_eq_true f3];simp
     go_wp2;go_ret;exact ⟨by rw [HR.o];rfl,K2.o⟩
   have JV:¬(8000:Int) < (m2:Int):=by omega
   have HR:Hid (bG xs fs=false):=by show _=_;rw [HB.o,decide_eq_false f1,decide_eq_false f2,decide_eq_false f3];rfl
   go_wp2;go_ret;exact ⟨by rw [HR.o];rfl,K2.o⟩
  have j7:Hid (eQ (xs.take 50)+eS (fs.take 50)=m2):=by show _=_;rw [<-K1.o,HE.o,List.take_of_length_le (by rw [pj.o];omega),List.take_of_length_le (by rw [pj.o];omega)]
  have JS:¬(k:Int) < (n2:Int):=by omega
  have HB:Hid (bG xs fs=(decide (40 < n)||decide (10 < n2)||decide (8000 < m2))):=by show _=_;unfold bG;rw [j7.o,K0.o,pj.o]
  by_cases f1:40 < n
  . have JT:(40:Int) < (n:Int):=by omega
    have HR:Hid (bG xs fs=true):=by show _=_;rw [HB.o,decide_eq_true f1];rfl
    go_wp2;go_ret;exact ⟨by rw [HR.o];rfl,K2.o⟩
  have JT:¬(40:Int) < (n:Int):=by omega
  by_cases f2:10 < n2
  . have JU:(10:Int) < (n2:Int):=by omega
    have HR:Hid (bG xs fs=true):=by show _=_;rw [HB.o,decide_eq_true f2];simp
    go_wp2;go_ret;exact ⟨by rw [HR.o];rfl,K2.o⟩
  have JU:¬(10:Int) < (n2:Int):=by omega
  by_cases f3:8000 < m2
  . have JV:(8000:Int) < (m2:Int):=by omega
    have HR:Hid (bG xs fs=true):=by show _=_;rw [HB.o,decide_eq_true f3];simp
    go_wp2;go_ret;exact ⟨by rw [HR.o];rfl,K2.o⟩
  have JV:¬(8000:Int) < (m2:Int):=by omega
  have HR:Hid (bG xs fs=false):=by show _=_;rw [HB.o,decide_eq_false f1,decide_eq_false f2,decide_eq_false f3];rfl
  go_wp2;go_ret;exact ⟨by rw [HR.o];rfl,K2.o⟩
 have HE:Hid (eQ (xs.take 50)=m):=by show _=_;rw [<-J1.o,List.take_of_length_le (by rw [K0.o];omega),List.take_of_length_le (by rw [K0.o];omega)]
 have hmb2:m<=200000000000000000:=CX;have hgt:¬(k:Int) < (n:Int):=by omega
 clear CX;go_wp2;obtain ⟨wA,rfl⟩:∃wA,wA=wr:=⟨_,rfl⟩;go_loopw [5,7] (fun v5 v7 wr=>∃k m2:Nat,v7=.int .i64 (k:Int)/\v5=.int .i64 (m2:Int)/\k<=n2/\k<=50/\Hid (m+eS (fs.take k)=m2)/\Hid (qW w wr)) (fun _ v7 _=>n2 - (intOf v7).toNat)
 case atStart=>exact ⟨0,m,rfl,rfl,by omega,by omega,rfl,J2.o⟩
 obtain ⟨k,m2,rfl,rfl,hk,vg,K1,K2⟩:=hrel;have CX:m2<=400000000000000000:=by have:=K1.o;have:=C6.o k vg;omega
 by_cases j4:k < n2
 .
  by_cases hle2:k < 50
  .
   have hA:=(HF.o.src (by omega)).1;subst hA;have o3:k < fs.length:=by rw [pj.o];exact j4
   have um:=(HF.o.src (by omega)).2;have HX:Hid (wr.cell? ⟨oe,off2+k*2,none⟩=some (.string (ba fs[k].1))/\wr.cell? ⟨oe,off2+k*2+1,none⟩=some (.string (ba fs[k].2))) :=
    ⟨(K2.o.cell (p:=⟨oe,off2+k*2,none⟩) um).trans (HF.o.at_ k o3).1,(K2.o.cell (p:=⟨oe,off2+k*2+1,none⟩) um).trans (HF.o.at_ k o3).2⟩
   have L0:=PK.o _ (List.getElem_mem o3);have HN:Hid (m+eS (fs.take (k+1))=m2+(fs[k].2.length+fs[k].1.length)):=by
    show _=_
    rw [List.take_succ_eq_append_getElem o3,Bb,<-K1.o];omega
   generalize fs[k]=x at HX L0 HN;obtain ⟨P,T⟩:=x;dsimp only at HN L0 HX;obtain ⟨zp,zt⟩:=L0;have e1:(ba P).size=P.length:=aD P;have e3:(ba T).size=T.length:=aD T;have w1:IntKind.i64.wrap ((k:Int)+1)=(k:Int)+1:=aM _ (by omega) (by omega);have w3:IntKind.i64.wrap ((m2:Int)+(T.length:Int))=(m2:Int)+(T.length:Int):=aM _ (by omega) (by omega);have w4:IntKind.i64.wrap ((m2:Int)+(T.length:Int)+(P.length:Int))=(m2:Int)+(T.length:Int)+(P.length:Int):=aM _ (by omega) (by omega);have BI:(k:Int) < (n2:Int):=by omega
   have hle2':(k:Int) < 50:=by omega
   have h02:(0:Int)<=(k:Int):=by omega
   have PN:Hid (wr.drew.cell? ⟨oe,off2+k*2,none⟩=some (.string (ba P))/\wr.drew.cell? ⟨oe,off2+k*2+1,none⟩=some (.string (ba T))):=HX.o;go_wp2;refine qG (S:=fun W=>W.cell? ⟨oe,off2+k*2,none⟩=some (.string (ba P))/\W.cell? ⟨oe,off2+k*2+1,none⟩=some (.string (ba T))) (by kernel_rfl) (PN.o) (fun hS=>?_);refine aG 0 ?_
   iterate 16
    refine qT rfl (by kernel_rfl) ‹_› (fun w a8=>by have c1:=a8.1;have c2:=a8.2;go_simp;with_reducible rfl) ?_;simp only [Act.put,aB,aA,aC,Nat.reduceAdd]
   refine aE ?_;refine qM (by kernel_rfl) ?_;go_wp2;go_roundw
   case rel=>exact ⟨k+1,m2+(T.length+P.length),by go_num,by congr 1;omega,by omega,by omega,HN.o,K2.o.drew⟩
   case measure=>simp [intOf];omega
  have JS:¬(k:Int) < 50:=by omega
  have BI:(k:Int) < (n2:Int):=by omega
  have j7:Hid (eQ (xs.take 50)+eS (fs.take 50)=m2):=by show _=_;rw [<-K1.o,HE.o,show k=50 by omega]
  have HB:Hid (bG xs fs=(decide (40 < n)||decide (10 < n2)||decide (8000 < m2))):=by show _=_;unfold bG;rw [j7.o,K0.o,pj.o]
  by_cases f1:40 < n
  . have JT:(40:Int) < (n:Int):=by omega
    have HR:Hid (bG xs fs=true):=by show _=_;rw [HB.o,decide_eq_true f1];rfl
    go_wp2;go_ret;exact ⟨by rw [HR.o];rfl,K2.o⟩
  have JT:¬(40:Int) < (n:Int):=by omega
  by_cases f2:10 < n2
  . have JU:(10:Int) < (n2:Int):=by omega
    have HR:Hid (bG xs fs=true):=by show _=_;rw [HB.o,decide_eq_true f2];simp
    go_wp2;go_ret;exact ⟨by rw [HR.o];rfl,K2.o⟩
  have JU:¬(10:Int) < (n2:Int):=by omega
  by_cases f3:8000 < m2
  . have JV:(8000:Int) < (m2:Int):=by omega
    have HR:Hid (bG xs fs=true):=by show _=_;rw [HB.o,decide_eq_true f3];simp
    go_wp2;go_ret;exact ⟨by rw [HR.o];rfl,K2.o⟩
  have JV:¬(8000:Int) < (m2:Int):=by omega
  have HR:Hid (bG xs fs=false):=by show _=_;rw [HB.o,decide_eq_false f1,decide_eq_false f2,decide_eq_false f3];rfl
  go_wp2;go_ret;exact ⟨by rw [HR.o];rfl,K2.o⟩
 have j7:Hid (eQ (xs.take 50)+eS (fs.take 50)=m2):=by show _=_;rw [<-K1.o,HE.o,List.take_of_length_le (by rw [pj.o];omega),List.take_of_length_le (by rw [pj.o];omega)]
 have JS:¬(k:Int) < (n2:Int):=by omega
 have HB:Hid (bG xs fs=(decide (40 < n)||decide (10 < n2)||decide (8000 < m2))):=by show _=_;unfold bG;rw [j7.o,K0.o,pj.o]
 by_cases f1:40 < n
 .
  have JT:(40:Int) < (n:Int):=by omega
  have HR:Hid (bG xs fs=true):=by show _=_;rw [HB.o,decide_eq_true f1];rfl
  go_wp2;go_ret;exact ⟨by rw [HR.o];rfl,K2.o⟩
 have JT:¬(40:Int) < (n:Int):=by omega
 by_cases f2:10 < n2
 .
  have JU:(10:Int) < (n2:Int):=by omega
  have HR:Hid (bG xs fs=true):=by show _=_;rw [HB.o,decide_eq_true f2];simp
  go_wp2;go_ret;exact ⟨by rw [HR.o];rfl,K2.o⟩
 have JU:¬(10:Int) < (n2:Int):=by omega
 by_cases f3:8000 < m2
 .
  have JV:(8000:Int) < (m2:Int):=by omega
  have HR:Hid (bG xs fs=true):=by show _=_;rw [HB.o,decide_eq_true f3];simp
  go_wp2;go_ret;exact ⟨by rw [HR.o];rfl,K2.o⟩
 have JV:¬(8000:Int) < (m2:Int):=by omega
 have HR:Hid (bG xs fs=false):=by show _=_;rw [HB.o,decide_eq_false f1,decide_eq_false f2,decide_eq_false f3];rfl
 go_wp2;go_ret;exact ⟨by rw [HR.o];rfl,K2.o⟩
open Go.ChangeShapes Go.WideShapes Go.ChangeAt Go.ChangeMaps Go.WideElems Go.RowKit Go.Deep
def own:ownKnob Tryz.prog.godebug=none:=by kernel_rfl
def laidOut:laidOutB Tryz.prog=true:=by kernel_rfl
def Nl : Tryz.prog.globalNamed "caravan/sha.roots" = some 0 := by kernel_rfl
def ii:(Tryz.prog.globals[0]?).map (·.type)=some 274:=by kernel_rfl
def c33:Tryz.prog.cellsOf 53=1:=by kernel_rfl
def c69:Tryz.prog.cellsOf 274=64:=by kernel_rfl
def oF : List (String × DataW Unit) := [("caravan/sha.roots", Rows.laid_caravan_sha_roots), ("unicode/utf8.acceptRanges", Rows.laid_unicode_utf8_acceptRanges), ("unicode/utf8.first", Rows.laid_unicode_utf8_first)]
def Ul (os:Os) (args:Array Value):laidMetH Tryz.prog oF (((World.laidAll Tryz.prog os oF).forCall (fun _ _=>0) ⟨#[],args,[]⟩).memory):=by
 rw [MakeChecks.laidMetH_plain _ _ _ (by kernel_rfl)];exact laidMet_laidAll _ (by kernel_rfl) (by kernel_rfl)
def Vf:(Rows.laid_caravan_sha_roots:DataW Unit)=Lib.tabData .u32 (Sha.dK.map Sha.u):=by kernel_rfl
def Vw {w:World} (h:w.ShapedOpen Tryz.prog):Tryz.prog.low<=w.heap.size:=by
 have hk:decide (Tryz.prog.globals.size < Tryz.prog.low)=true:=by kernel_rfl
 have hk:=of_decide_eq_true hk;obtain ⟨o,_,ho,_⟩:=h.2 (Tryz.prog.low - 1) (by omega) (by unfold Program.low at hk ⊢;omega);have:=(Array.getElem?_eq_some_iff.1 ho).1;omega
def jo {W:World} (FU:W.ShapedOpen Tryz.prog):Gd W:=⟨FU,Vw FU⟩
def fe {W:World} (h:laidMetH Tryz.prog oF W):Sha.Tab W:=by
 rw [MakeChecks.laidMetH_plain _ _ _ (by kernel_rfl)] at h;rw [oF,Vf] at h;have hT:=Lib.tabIs_of_head Nl ii Tryz.underlying274 Tryz.underlying53 c33 c69 h;intro i hi;have:=hT.cell Nl i (by simp;exact hi);rw [this];have hk:i < Sha.dK.length:=hi;simp [Sha.at32,List.getD,List.getElem?_eq_getElem hk]
section
variable {H:Type} {enc:TypeId × Value->H}
theorem Bi {a:Assume} {C:Checked} {os:Os} {f:FuncId} {fn:Func} {s:ChangeSpec} {conds:List PathCond} {apart fresh handsOn again:Bool} {X:World->Array Value->Prop}
 (hX:∀(w w':World) (args:Array Value),w.heap=w'.heap->X w args->X w' args)
 (own:ownKnob C.prog.godebug=none) (started:os.Started) (noInit:C.prog.inits.idxOf? f=none) (SZ:C.prog.funcs[f]? = some fn)
 (witness:∃(w:World) (tape:Tape) (i:Input),w.os=os/\(w.forCall tape i).Shaped C.prog/\i.vars=[]/\Input.okWide C.prog (w.forCall tape i) .any w.heap.size f i /\
   ((s.pre enc C.prog fn conds apart (w.forCall tape i).memory i.args/\X (w.forCall tape i).memory i.args)/\sizedMet enc C.prog fn (OpenSpec.ofChange s) apart (w.forCall tape i).memory i.args)/\a.holds C.prog (lone (Frame.enter C.prog f i.args .normal) [] (w.forCall tape i)))
 (contract:∀(W:World) (base:Nat) (args:Array Value) (ds gs:List (DataW H)) (before:List MemPlace),
   (∀(j:Nat) t v,fn.params[j]? = some t->args[j]? = some v->Value.okWide C.prog W .any base t v) ->
   DataW.Whole enc C.prog fn.params.toList s.vars apart W args.toList ds gs before ->
   (DataW.weightsEach C.prog (fn.params.toList++s.plain.varTypes C.prog) (ds++gs)).all (·<=reachBytes)=true->W.ShapedOpen C.prog->X W args ->
   Calls C.prog f args W fun e W'=>∃v,e=.returned v/\s.post enc C.prog fn apart fresh handsOn again W args v W') :
 ReturnsInHanded a C os f .any (fun w args=>(s.pre enc C.prog fn conds apart w args/\X w args)/\sizedMet enc C.prog fn (OpenSpec.ofChange s) apart w args) (s.post enc C.prog fn apart fresh handsOn again):=by
 refine returnsInHanded_of_calls own started noInit witness ?_;intro w tape i _ FU _ pu p4 _;obtain ⟨_,_,_,fn2,po,_,_,_,_,ya⟩:=pu;obtain rfl:fn2=fn:=Option.some.inj (po.symm.trans SZ);obtain ⟨⟨⟨ds,gs,before,hw,_⟩,hx⟩,hz⟩:=p4;refine (contract (w.forCall tape i) w.heap.size i.args ds gs before ya (DataW.Whole.of_heap (w':=w.forCall tape i) (by rfl) hw) (hz.weights hw) FU (hX _ _ _ (by rfl) hx)).mono fun e W2 ⟨v,he,hp⟩=>?_
 subst he;exact ChangeSpec.post_blind hp
end
def Vt {H:Type} {enc:TypeId × Value->H} {f:Func} {s:ChangeSpec} {W W':World} {args:Array Value} {ds:List (DataW H)} {before pa:List MemPlace} (hv:s.vars=[]) (hft:f.resultTypes=#[4])
 (hW:DataW.Whole enc Tryz.prog f.params.toList s.vars false W args.toList ds [] before) (hs:s.fn H (ds++[]) = { results:=[.lit (.bool true)],args:=ds }) (hb:qW W W')
 (hargs:DataW.TrodAll enc Tryz.prog W' 0 (fun b=>decide (b < W.heap.size)) true f.params.toList args.toList ds pa) :
 s.post enc Tryz.prog f false true false false W args (.bool true) W':=by
 refine ⟨ds,[],before,[],pa,[],hW,?_,?_,?_,hb.frame _,fun h=>by cases h⟩
 . rw [hs,hft];exact trodAll_mk1 (shut_bool Tryz.underlying4 true)
 . rw [hs];exact hargs
 rw [hs,hv];exact rfl
end Go.Proofs.YtahkcemdbfjilaaGreatDoor
