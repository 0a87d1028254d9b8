/- Several texts in one. Conditions: those said at each. -/
import Derived.Test.YtahkcemdbfjilaaGreatDoorIt33
set_option linter.unusedSimpArgs false
set_option linter.unusedVariables false
set_option maxRecDepth 100000
namespace Go.Proofs.YtahkcemdbfjilaaGreatDoor
open Go.RowKit Go.Maps
inductive Th
 | d (p:Nat) (M:Mo)
 | r (p:Nat) (M:Mo)
 | h (b:Nat) (t:TypeId) (cs:Array Value)
 | s (v:Value) (e:TypeId) (sz n:Nat) (xs:List Value)
def ThOk (own:Nat→Prop) (w:World):Th→Prop
 | .d p M=>Dsk own w p M
 | .r p M=>RDk own w p M
 | .h b t cs=>((∀g,own g→g=b)∧own b∧Has w b t cs)∧¬Firm t
 | .s v e sz n xs=>((∀g,own g↔v.ownBlock=some g)∧w.ownsRow 0 e sz v n xs)∧¬Firm e
theorem ThOk.low {own:Nat→Prop} {w:World} {x:Th} (h:ThOk own w x):∀g,own g→g < w.heap.size:=by
 cases x with
 | d p M=>exact Dsk.low h
 | r p M=>exact RDk.low h
 | h b t cs=>intro g hg;rw [h.1.1 g hg];exact h.1.2.2.inside
 | s v e sz n xs=>intro g hg;exact (World.ownsRow.lt h.1.2 g ((h.1.1 g).1 hg)).2
theorem ThOk.loose {own:Nat→Prop} {w:World} {x:Th} (h:ThOk own w x):∀g,own g→Loose w g:=by
 cases x with
 | d p M=>exact Dsk.loose h
 | r p M=>exact RDk.loose h
 | h b t cs=>intro g hg;rw [h.1.1 g hg];exact h.1.2.2.loose h.2
 | s v e sz n xs=>intro g hg;obtain ⟨cur,hc⟩:=row_kindN h.1.2 ((h.1.1 g).1 hg);exact Has.loose (cs:=cur) hc h.2
theorem ThOk.turn {own own2:Nat→Prop} {w w':World} {x:Th} (h:ThOk own w x) (hu:Turn own2 w w') (hl:∀g,own2 g→Loose w g) (ha:∀g,own g→¬own2 g):ThOk own w' x:=by
 cases x with
 | d p M=>exact Dsk.turn h hu hl ha
 | r p M=>exact RDk.turn h hu ha
 | h b t cs=>exact ⟨⟨h.1.1,h.1.2.1,(hu.block b h.1.2.2.inside (ha b h.1.2.1)).trans h.1.2.2⟩,h.2⟩
 | s v e sz n xs=>exact ⟨⟨h.1.1,row_of h.1.2 fun g hg=>hu.block g (World.ownsRow.lt h.1.2 g hg).2 (ha g ((h.1.1 g).2 hg))⟩,h.2⟩
def AllD (w:World):(Nat→Prop)→List Th→Prop
 | _,[]=>True
 | T,x :: ds=>∃own,ThOk own w x∧(∀g,own g→T g)∧AllD w (fun g=>T g∧¬own g) ds
theorem AllD.mono {w:World}:∀{ds:List Th} {T T':Nat→Prop},AllD w T ds→(∀g,g < w.heap.size→T g→T' g)→AllD w T' ds
 | [],_,_,_,_=>trivial
 | _ :: _,_,_,⟨own,h1,h2,h3⟩,h=>⟨own,h1,fun g hg=>h g (h1.low g hg) (h2 g hg),h3.mono fun g hg k=>⟨h g hg k.1,k.2⟩⟩
theorem AllD.turn {w w':World} {own2:Nat→Prop} (hu:Turn own2 w w') (hl:∀g,own2 g→Loose w g):∀{ds:List Th} {T:Nat→Prop},AllD w T ds→(∀g,T g→¬own2 g)→AllD w' T ds
 | [],_,_,_=>trivial
 | _ :: _,_,⟨own,h1,h2,h3⟩,h=>⟨own,h1.turn hu hl (fun g hg=>h g (h2 g hg)),h2,h3.turn hu hl fun g k=>h g k.1⟩
structure Lv (w0 w:World) (ds:List Th):Prop where
 bl:Below w0.heap.size w0 w
 all:AllD w (fun g=>w0.heap.size≤g) ds
section
variable {w0 w w':World} {p q:Nat} {M K:Mo} {ds:List Th}
theorem Lv.nil (w:World):Lv w w []:=⟨Below.refl _ _,trivial⟩
theorem Lv.on (h:Lv w0 w ds) (hb:Below w.heap.size w w'):Lv w0 w' ds :=
 ⟨h.bl.trans (hb.mono h.bl.size),h.all.turn (own2:=fun _=>False) (Turn.of_below hb) (fun _ k=>k.elim) (fun _ _ k=>k)⟩
theorem Lv.ahead (h:Lv w w' ds) (hb:Below w0.heap.size w0 w):Lv w0 w' ds :=
 ⟨hb.trans (h.bl.mono hb.size),h.all.mono fun _ _ k=>Nat.le_trans hb.size k⟩
theorem Lv.gd (h:Lv w0 w ds) (hG:Gd w0):Gd w:=hG.kept h.bl
theorem Lv.headR (h:Lv w0 w (.r p M :: ds)):∃own,RDk own w p M∧(∀g,own g→w0.heap.size≤g):=by
 obtain ⟨own,h1,h2,h3⟩:=h.all;exact ⟨own,h1,h2⟩
theorem Lv.stepT {x:Th} (h:Lv w0 w (x :: ds)):∃own,ThOk own w x∧(∀g,own g→w0.heap.size≤g)∧∀w' y own',ThOk own' w' y→Turn own w w'→(∀g,own' g→own g∨w.heap.size≤g)→Lv w0 w' (y :: ds):=by
 obtain ⟨own,h1,h2,h3⟩:=h.all;refine ⟨own,h1,h2,fun w' y own' k1 k2 k3=>?_⟩
 refine ⟨h.bl.trans (k2.below h2 h.bl.size),own',k1,fun g hg=>?_,?_⟩
 · rcases k3 g hg with e | e
   · exact h2 g e
   · exact Nat.le_trans h.bl.size e
 · have:=AllD.mono (T':=fun g=>(w0.heap.size≤g∧¬own g)∧g < w.heap.size) h3 (fun g a b=>⟨b,a⟩)
   refine (this.turn k2 h1.loose fun g k=>k.1.2).mono fun g _ k=>⟨k.1.1,fun e=>?_⟩
   rcases k3 g e with a | a
   · exact k.1.2 a
   · exact absurd k.2 (by omega)
theorem Lv.step (h:Lv w0 w (.d p M :: ds)):∃own,Dsk own w p M∧(∀g,own g→w0.heap.size≤g)∧∀w' K,DPost own w p K w'→Lv w0 w' (.d p K :: ds):=by
 obtain ⟨own,h1,h2,h3⟩:=h.stepT;exact ⟨own,h1,h2,fun w' K ⟨own',k1,k2,k3⟩=>h3 w' (.d p K) own' k1 k2 k3⟩
theorem Lv.stepR (h:Lv w0 w (.r p M :: ds)):∃own,RDk own w p M∧(∀g,own g→w0.heap.size≤g)∧∀w' K,RPost own w p K w'→Lv w0 w' (.r p K :: ds):=by
 obtain ⟨own,h1,h2,h3⟩:=h.stepT;exact ⟨own,h1,h2,fun w' K ⟨own',k1,k2,k3⟩=>h3 w' (.r p K) own' k1 k2 k3⟩
theorem Lv.push {y:Th} (h:Lv w0 w ds) {own:Nat→Prop} (hd:ThOk own w' y) (ho:∀g,own g→w.heap.size≤g) (hb:Below w.heap.size w w'):Lv w0 w' (y :: ds):=by
 refine ⟨h.bl.trans (hb.mono h.bl.size),own,hd,fun g hg=>Nat.le_trans h.bl.size (ho g hg),?_⟩
 have h1:=AllD.mono (T':=fun g=>w0.heap.size≤g∧g < w.heap.size) h.all (fun g a b=>⟨b,a⟩)
 exact (h1.turn (own2:=fun _=>False) (Turn.of_below hb) (fun g k=>k.elim) (fun g _ k=>k)).mono fun g _ k=>⟨k.1,fun e=>absurd (ho g e) (by have:=k.2;omega)⟩
theorem Lv.swap {x y:Th} (h:Lv w0 w (x :: y :: ds)):Lv w0 w (y :: x :: ds):=by
 obtain ⟨own,h1,h2,own',h3,h4,h5⟩:=h.all;exact ⟨h.bl,own',h3,fun g hg=>(h4 g hg).1,own,h1,fun g hg=>⟨h2 g hg,fun e=>(h4 g e).2 hg⟩,h5.mono fun g _ k=>⟨⟨k.1.1,k.2⟩,k.1.2⟩⟩
theorem Lv.drop {x:Th} (h:Lv w0 w (x :: ds)):Lv w0 w ds:=by
 obtain ⟨own,h1,h2,h3⟩:=h.all;exact ⟨h.bl,h3.mono fun g _ k=>k.1⟩
variable (h:Lv w0 w (.d q M :: ds)) (hG:Gd w0)
include h hG
omit hG
end
theorem lNew {w0 w:World} {ds:List Th} (h:Lv w0 w ds) (room:Nat) (r0:1024≤room) (r1:room≤1048576) :
 Calls Tryz.prog 34 #[.int .i64 (room:Int)] w fun e w'=>∃p,e=.returned (.tuple #[.pointer (some ⟨p,0,none⟩),.int .i64 0])∧Lv w0 w' (.d p (newM room) :: ds):=by
 refine (dNew_any room w r0 r1).mono ?_;rintro e w' ⟨own,p,rfl,k1,k2,k3⟩;exact ⟨p,rfl,h.push (y:=.d p _) k1 k2 k3⟩
theorem AllD.get {w:World}:∀{ds:List Th} {T:Nat→Prop},AllD w T ds→∀{x:Th},x∈ds→∃own,ThOk own w x
 | [],_,_,_,h=>by cases h
 | _ :: _,_,⟨own,h1,_,h3⟩,_,h=>by
  rcases List.mem_cons.1 h with e | e
  · subst e;exact ⟨own,h1⟩
  · exact h3.get e
theorem Lv.hasH {w0 w:World} {ds:List Th} (h:Lv w0 w ds) {b:Nat} {t:TypeId} {cs:Array Value} (hm:.h b t cs∈ds):Has w b t cs:=by
 obtain ⟨own,h1⟩:=h.all.get hm;exact h1.1.2.2
theorem Lv.hasS {w0 w:World} {ds:List Th} (h:Lv w0 w ds) {v:Value} {e:TypeId} {sz n:Nat} {xs:List Value} (hm:.s v e sz n xs∈ds):w.ownsRow 0 e sz v n xs:=by
 obtain ⟨own,h1⟩:=h.all.get hm;exact h1.1.2
theorem Lv.srow {w0 w w':World} {ds:List Th} (h:Lv w0 w ds) {B:Nat} {v:Value} {e:TypeId} {sz n:Nat} {xs:List Value} (hr:w'.ownsRow B e sz v n xs) (hB:w.heap.size≤B) (hb:Below w.heap.size w w') (ht:¬Firm e):Lv w0 w' (.s v e sz n xs :: ds):=by
 refine h.push (y:=.s v e sz n xs) (own:=fun g=>v.ownBlock=some g) ⟨⟨fun _=>Iff.rfl,hr.1,?_⟩,ht⟩ (fun g hg=>Nat.le_trans hB (World.ownsRow.lt hr g hg).1) hb
 rcases hr.2 with h1 | ⟨g,c,cur,h1,h2,h3⟩
 · exact .inl h1
 · exact .inr ⟨g,c,cur,h1,Nat.zero_le _,h3⟩
theorem Lv.headD {w0 w:World} {p:Nat} {M:Mo} {ds:List Th} (h:Lv w0 w (.d p M :: ds)):∃own,Dsk own w p M:=by
 obtain ⟨own,h1,_⟩:=h.all;exact ⟨own,h1⟩
end Go.Proofs.YtahkcemdbfjilaaGreatDoor
namespace Go.Proofs.YtahkcemdbfjilaaGreatDoor
open Go.RowKit Go.Maps
theorem AllD.perm {w:World} {ds ds':List Th} (hp:ds.Perm ds'):∀{T:Nat→Prop},AllD w T ds→AllD w T ds':=by
 induction hp with
 | nil=>exact fun h=>h
 | cons x _ ih=>rintro T ⟨own,h1,h2,h3⟩;exact ⟨own,h1,h2,ih h3⟩
 | swap x y l=>rintro T ⟨own,h1,h2,own',h3,h4,h5⟩;exact ⟨own',h3,fun g hg=>(h4 g hg).1,own,h1,fun g hg=>⟨h2 g hg,fun e=>(h4 g e).2 hg⟩,h5.mono fun g _ k=>⟨⟨k.1.1,k.2⟩,k.1.2⟩⟩
 | trans _ _ ih1 ih2=>exact fun h=>ih2 (ih1 h)
section
variable {w0 w:World} {x y z:Th} {ds:List Th}
theorem Lv.back (h:Lv w0 w (x :: y :: z :: ds)):Lv w0 w (y :: z :: x :: ds):=⟨h.bl,h.all.perm ((List.perm_append_comm (l₁:=[x]) (l₂:=[y,z])).append_right ds)⟩
theorem Lv.front (h:Lv w0 w (y :: z :: x :: ds)):Lv w0 w (x :: y :: z :: ds):=⟨h.bl,h.all.perm ((List.perm_append_comm (l₁:=[y,z]) (l₂:=[x])).append_right ds)⟩
theorem Lv.drop3 (h:Lv w0 w (y :: z :: x :: ds)):Lv w0 w (y :: z :: ds):=h.front.drop
end
section
variable {w0 w:World} {q:Nat} {M:Mo} {ds:List Th}
def DonG (w0 w:World) (q:Nat) (ds:List Th) (M:Mo) (y:Eff) (e:Ending) (w':World):Prop:=e=.returned (.int .i64 (doM M y).1)∧Lv w0 w' (.d q (doM M y).2 :: ds)∧Gx w w'
def DonR (w0 w:World) (q:Nat) (ds:List Th) (M:Mo) (y:Eff) (e:Ending) (w':World):Prop:=e=.returned (.int .i64 (doM M y).1)∧Lv w0 w' (.r q (doM M y).2 :: ds)∧Gx w w'
theorem gWrite (h:Lv w0 w (.d q M :: ds)) (hG:Gd w0) (p d:By) (tm:Int) (hp:p.length≤4000) (hd:d.length≤1000000) (hlen:M.since.length+1≤100000) :
 Calls Tryz.prog 39 #[.pointer (some ⟨q,0,none⟩),kS p,kS d,.int .i64 tm] w fun e w'=>DonG w0 w q ds M (.write p d tm) e w':=by
 obtain ⟨own,h1,_,h2⟩:=h.step;refine (dWrite_any h1 (h.gd hG) p d tm hp hd hlen).mono fun e w' k=>⟨k.1,h2 _ _ k.2,?_⟩
 obtain ⟨_,_,k2,_⟩:=k.2;exact Gx.of_turn k2 h1.loose
theorem gLink (h:Lv w0 w (.d q M :: ds)) (hG:Gd w0) (p d:By) (tm:Int) (hp:p.length≤4000) (hd:d.length≤1000000) (hlen:M.since.length+1≤100000) :
 Calls Tryz.prog 40 #[.pointer (some ⟨q,0,none⟩),kS p,kS d,.int .i64 tm] w fun e w'=>DonG w0 w q ds M (.link p d tm) e w':=by
 obtain ⟨own,h1,_,h2⟩:=h.step;refine (dLink_any h1 (h.gd hG) p d tm hp hd hlen).mono fun e w' k=>⟨k.1,h2 _ _ k.2,?_⟩
 obtain ⟨_,_,k2,_⟩:=k.2;exact Gx.of_turn k2 h1.loose
theorem gMkdir (h:Lv w0 w (.d q M :: ds)) (hG:Gd w0) (p:By) (hp:p.length≤4000) (hlen:M.since.length+1≤100000) :
 Calls Tryz.prog 37 #[.pointer (some ⟨q,0,none⟩),kS p] w fun e w'=>DonG w0 w q ds M (.mkdir p) e w':=by
 obtain ⟨own,h1,_,h2⟩:=h.step;refine (dMkdir_any h1 (h.gd hG) p hp hlen).mono fun e w' k=>⟨k.1,h2 _ _ k.2,?_⟩
 obtain ⟨_,_,k2,_⟩:=k.2;exact Gx.of_turn k2 h1.loose
theorem gDo (h:Lv w0 w (.r q M :: ds)) (e:Rw) (he:RwOk e) (hp:e.p.length≤4000) (hq:e.q.length≤4000) (hlen:M.since.length+1≤100000) :
 Calls Tryz.prog 38 #[.pointer (some ⟨q,0,none⟩),.agg (rwC e)] w fun en w'=>DonR w0 w q ds M (rwE e) en w':=by
 obtain ⟨own,h1,_,h2⟩:=h.stepR;refine (rDo_any h1 e he hp hq hlen).mono fun en w' k=>⟨k.1,h2 _ _ k.2,?_⟩
 obtain ⟨_,_,k2,_⟩:=k.2;exact Gx.of_turn k2 h1.loose
theorem rDo3 (h:Lv w0 w (.r q M :: ds)) (p:By) (hp:p.length≤4000) (hlen:M.since.length+1≤100000) :
 Calls Tryz.prog 38 #[.pointer (some ⟨q,0,none⟩),.agg #[.int .i64 3,kS p,.string ⟨#[]⟩,.string ⟨#[]⟩,.int .i64 0,.int .i64 0,.bool false]] w fun en w'=>DonR w0 w q ds M (.mkdir p) en w' :=
 gDo h ⟨3,p,[],[],0⟩ ⟨by show (1:Int)≤(3:Int);decide,by show (3:Int)≤6;decide,by simp,.inr (.inl rfl)⟩ hp (by simp) hlen
theorem rDo1 (h:Lv w0 w (.r q M :: ds)) (p d:By) (tm:Int) (hp:p.length≤4000) (hd:d.length≤1000000) (hlen:M.since.length+1≤100000) :
 Calls Tryz.prog 38 #[.pointer (some ⟨q,0,none⟩),.agg #[.int .i64 1,kS p,.string ⟨#[]⟩,kS d,.int .i64 tm,.int .i64 0,.bool false]] w fun en w'=>DonR w0 w q ds M (.write p d tm) en w' :=
 gDo h ⟨1,p,[],d,tm⟩ ⟨by show (1:Int)≤(1:Int);decide,by show (1:Int)≤6;decide,by show d.length≤_;omega,.inl rfl⟩ hp (by simp) hlen
theorem rDo4 (h:Lv w0 w (.r q M :: ds)) (p d:By) (tm:Int) (hp:p.length≤4000) (hd:d.length≤1000000) (hlen:M.since.length+1≤100000) :
 Calls Tryz.prog 38 #[.pointer (some ⟨q,0,none⟩),.agg #[.int .i64 4,kS p,.string ⟨#[]⟩,kS d,.int .i64 tm,.int .i64 0,.bool false]] w fun en w'=>DonR w0 w q ds M (.link p d tm) en w' :=
 gDo h ⟨4,p,[],d,tm⟩ ⟨by show (1:Int)≤(4:Int);decide,by show (4:Int)≤6;decide,by show d.length≤_;omega,.inr (.inr rfl)⟩ hp (by simp) hlen
theorem gMade {w0 w:World} {ds:List Th} (h:Lv w0 w ds) (room:Nat) (r0:1024≤room) (r1:room≤1048576) :
 Calls Tryz.prog 35 #[.int .i64 (room:Int)] w fun e w'=>∃r,e=.returned (.pointer (some ⟨r,0,none⟩))∧Lv w0 w' (.r r (newM room) :: ds):=by
 refine (rMade_any w room r0 r1).mono ?_;rintro e w' ⟨own,r,rfl,k1,k2,k3⟩;exact ⟨r,rfl,h.push (y:=.r r _) k1 k2 k3⟩
theorem StrR.gx {B:Nat} {w w':World} {v:Value} {xs:List By} (h:StrR B w v xs) (k:Gx w w'):StrR B w' v xs:=row_of h fun g hg=>by
 obtain ⟨cur,hc⟩:=row_kindN h hg;exact (k.2 g cur _ _ hc (.inl rfl)).trans hc.symm
end
structure PutT where
 kind:Int
 p:By
 text:By
 long:Int
 time:Int
def put0:PutT:=⟨0,[],[],0,0⟩
structure PutOk (x:PutT):Prop where
 p:x.p.length≤140737488351232
 text:x.text.length≤140737488351232
 l0:-9223372036854775808≤x.long
 l1:x.long≤9223372036854775807
def putC (x:PutT):Array Value:=#[.int .i64 x.kind,kS x.p,kS x.text,.int .i64 x.long,.int .i64 x.time]
structure PutAt (w:World) (bb o:Nat) (x:PutT):Prop where
 c0:w.cell? ⟨bb,o,none⟩=some (.int .i64 x.kind)
 c1:w.cell? ⟨bb,o+1,none⟩=some (kS x.p)
 c2:w.cell? ⟨bb,o+2,none⟩=some (kS x.text)
 c3:w.cell? ⟨bb,o+3,none⟩=some (.int .i64 x.long)
 c4:w.cell? ⟨bb,o+4,none⟩=some (.int .i64 x.time)
theorem PutAt.on {w w':World} {bb o:Nat} {x:PutT} (h:PutAt w bb o x) (hb:Below w.heap.size w w'):PutAt w' bb o x:=by
 have k:bb < w.heap.size:=block_lt_of_cell (a:=⟨bb,o,none⟩) h.c0;exact ⟨(hb.cell (p:=⟨bb,o,none⟩) k).trans h.c0,(hb.cell (p:=⟨bb,o+1,none⟩) k).trans h.c1,(hb.cell (p:=⟨bb,o+2,none⟩) k).trans h.c2,(hb.cell (p:=⟨bb,o+3,none⟩) k).trans h.c3,(hb.cell (p:=⟨bb,o+4,none⟩) k).trans h.c4⟩
theorem PutAt.load {w:World} {bb o:Nat} {x:PutT} (h:PutAt w bb o x):(loadVar 89 ⟨bb,o,none⟩).run Tryz.prog w=.ok (.agg (putC x)) w:=by
 refine run_loadVar_mid (P:=Tryz.prog) w bb o 89 (putC x).toList _ (fun j u hj=>?_) Tryz.underlying89 rfl (by show _=some 5;kernel_rfl)
 match j,hj with
 | 0,hj=>obtain rfl:=Option.some.inj hj;exact h.c0
 | 1,hj=>obtain rfl:=Option.some.inj hj;exact h.c1
 | 2,hj=>obtain rfl:=Option.some.inj hj;exact h.c2
 | 3,hj=>obtain rfl:=Option.some.inj hj;exact h.c3
 | 4,hj=>obtain rfl:=Option.some.inj hj;exact h.c4
 | j+5,hj=>simp [putC] at hj
structure PutsIn (w:World) (A:Option Addr) (n bb off:Nat) (xs:List PutT):Prop where
 len:xs.length=n
 src:0 < n→A=some ⟨bb,off,none⟩∧bb < w.heap.size
 at_:∀i,i < n→PutAt w bb (off+i*5) (xs.getD i put0)
 ok:∀x∈xs,PutOk x
theorem PutsIn.on {w w':World} {A:Option Addr} {n bb off:Nat} {xs:List PutT} (h:PutsIn w A n bb off xs) (hb:Below w.heap.size w w'):PutsIn w' A n bb off xs :=
 ⟨h.len,fun h0=>⟨(h.src h0).1,Nat.lt_of_lt_of_le (h.src h0).2 hb.size⟩,fun i hi=>(h.at_ i hi).on hb,h.ok⟩
theorem put_mem {xs:List PutT} {k:Nat} (h:k < xs.length):xs.getD k put0∈xs:=by
 rw [List.getD,List.getElem?_eq_getElem h];exact List.getElem_mem h
def pdN (x:PutT):Nat:=if x.text.length=0 then 0 else min x.long.toNat 6000
def pdTo (t:By) (k:Nat):By:=(List.range k).map fun i=>at8 t (i % t.length)
@[irreducible] def pdL (x:PutT):By:=pdTo x.text (pdN x)
theorem pdTo_len (t:By) (k:Nat):(pdTo t k).length=k:=by simp [pdTo]
theorem pdTo_next (t:By) (k:Nat):pdTo t (k+1)=pdTo t k++[at8 t (k % t.length)]:=by simp [pdTo,List.range_succ]
theorem pdL_len (x:PutT):(pdL x).length≤6000:=by unfold pdL;rw [pdTo_len];unfold pdN;split<;>omega
def waysM (M:Mo) (l:List By):Mo:=l.foldl (fun M q=>(doM M (.mkdir q)).2) M
theorem waysM_snoc (M:Mo) (l:List By) (q:By):waysM M (l++[q])=(doM (waysM M l) (.mkdir q)).2:=by simp [waysM,List.foldl_append]
def putF (x:PutT):Option Eff:=if x.kind=1 then some (.write x.p (pdL x) x.time) else if x.kind=2 then some (.mkdir x.p) else if x.kind=3 then some (.link x.p x.text x.time) else none
def putM (M:Mo) (x:PutT):Mo:=match putF x with
 | some y=>(doM (waysM M (waysL x.p).dropLast) y).2
 | none=>waysM M (waysL x.p).dropLast
def madeM (xs:List PutT):Mo:=xs.foldl putM (newM 262144)
theorem madeM_snoc (xs:List PutT) (x:PutT):madeM (xs++[x])=putM (madeM xs) x:=by simp [madeM,List.foldl_append]
theorem since_ways (l:List By):∀M:Mo,(waysM M l).since.length≤M.since.length+l.length:=by
 induction l with
 | nil=>exact fun _=>Nat.le_refl _
 | cons q l ih =>
  intro M;have h1:=ih (doM M (.mkdir q)).2;have h2:=since_do M (.mkdir q);show (waysM (doM M (.mkdir q)).2 l).since.length≤_
  rw [List.length_cons];omega
theorem since_put (M:Mo) (x:PutT):(putM M x).since.length≤M.since.length+202:=by
 have h1:=since_ways (waysL x.p).dropLast M;have h2:=waysL_len x.p;rw [List.length_dropLast] at h1;unfold putM;split
 · rename_i y _
   have h3:=since_do (waysM M (waysL x.p).dropLast) y;omega
 · omega
theorem since_made (xs:List PutT):(madeM xs).since.length≤xs.length*202:=by
 have:∀(xs:List PutT) (M:Mo),(xs.foldl putM M).since.length≤M.since.length+xs.length*202:=by
  intro xs;induction xs with
  | nil=>intro M;simp
  | cons x xs ih =>
   intro M;have h1:=ih (putM M x);have h2:=since_put M x;rw [List.foldl_cons,List.length_cons,Nat.add_mul];omega
 have h:=this xs (newM 262144);have e:(newM 262144).since.length=0:=rfl;unfold madeM;omega
theorem waysL_short (p:By):∀q∈waysL p,q.length≤p.length:=by
 intro q hq;unfold waysL at hq;rcases List.mem_append.1 hq with h | h
 · unfold waysTo at h
   obtain ⟨i,_,rfl⟩:=List.mem_map.1 h;rw [List.length_take];omega
 · rw [List.mem_singleton] at h;rw [h];exact Nat.le_refl _
end Go.Proofs.YtahkcemdbfjilaaGreatDoor
namespace Go.Proofs.YtahkcemdbfjilaaGreatDoor.Glob
open Go.RowKit Go.Maps
structure FilesAt (w:World) (A:Option Addr) (n bb off:Nat) (fs:Fl):Prop where
 len:fs.length=n
 src:0 < n→A=some ⟨bb,off,none⟩∧bb < w.heap.size
 at_:∀i (hi:i < fs.length),w.cell? ⟨bb,off+i*2,none⟩=some (.string (ba fs[i].1))∧w.cell? ⟨bb,off+i*2+1,none⟩=some (.string (ba fs[i].2))
 ok:∀i (hi:i < fs.length),fs[i].1.length≤maxLen∧fs[i].2.length≤maxLen
end Go.Proofs.YtahkcemdbfjilaaGreatDoor.Glob
