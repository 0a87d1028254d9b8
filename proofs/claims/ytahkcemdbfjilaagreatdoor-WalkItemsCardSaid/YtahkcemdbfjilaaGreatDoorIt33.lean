/- Several texts in one. Conditions: those said at each. -/
import Derived.Test.YtahkcemdbfjilaaGreatDoorIt00
import Derived.Test.YtahkcemdbfjilaaGreatDoorIt32
set_option linter.unusedSimpArgs false
set_option linter.unusedVariables false
set_option maxRecDepth 100000
namespace Go.Proofs.YtahkcemdbfjilaaGreatDoor
open Go.RowKit Go.Maps
theorem ERow.aside {w w':World} {r:Nat} {cs:Array Value} {v:Value} {es:List Rw} (h:ERow 0 w v es) (hr:Has w r 51 cs) (hu:Turn (One r) w w'):ERow 0 w' v es :=
 row_of h (fun b hb=>hu.block b (World.ownsRow.lt h b hb).2 (fun e=>by
  obtain ⟨cur,hc⟩:=row_kindN h hb;have e':b=r:=e;unfold Has at hr;rw [←e',hc] at hr;injection hr with hr;injection hr with _ hr;revert hr;decide))
theorem ERow.on {w w':World} {v:Value} {es:List Rw} (h:ERow 0 w v es) (hb:Below w.heap.size w w'):ERow 0 w' v es:=row_of h fun g hg=>hb.block g (World.ownsRow.lt h g hg).2
theorem log_app {w:World} {sv:Value} {es:List Rw} (h:ERow 0 w sv es) (x:Rw) (hn:es.length≤100000) :
 ∃v' w',(Builtin.append_ #[49,49] 49 #[sv,.slice (some ⟨w.heap.size,0,none⟩) 1 1]).run Tryz.prog (w.alloc (.cells (rwC x) 99))=.ok v' w'∧ERow 0 w' v' (es++[x])∧Turn (fun g=>sv.ownBlock=some g) w w'∧(v'.ownBlock=sv.ownBlock∨∃b,v'.ownBlock=some b∧w.heap.size≤b):=by
 have hb:Below w.heap.size w (w.alloc (.cells (rwC x) 99)):=(Below.refl _ _).alloc (Nat.le_refl _) _;obtain ⟨v',w',k1,k2,k3,k4⟩:=append_ef _ 0 sv es (h.on hb) x w.heap.size (Has.fresh w 99 _) hn (Nat.zero_le _) 49;refine ⟨v',w',k1,k2,(Turn.of_below hb).then (Turn.of_grown k3 (fun g hg=>hg)),?_⟩
 rcases k4 with e | e
 · exact .inl e
 · exact .inr ⟨_,e,hb.size⟩
def mayR (e:Rw):Bool:=mayB e.p&&(!(e.dO == 5)||mayB e.q)
def timR (e:Rw):Bool:=(e.dO == 1||e.dO == 4)&&(decide (e.tm < 0)||decide (4294967295 < e.tm))
def lenR (e:Rw):Bool:=(e.dO == 4)&&(decide (e.d.length < 1)||decide (160 < e.d.length))
def namR (e:Rw):Bool:=(e.dO == 5)&&(decide (e.p=e.q)||withinB e.q e.p)
def argR (e:Rw):Bool:=timR e||lenR e||namR e
theorem tim_no (t:Int):(decide (t < 0)||decide (4294967295 < t)) = !timeB t:=by
 unfold timeB;by_cases h0:t < 0
 · have:¬0≤t:=by omega
   simp [h0,this]
 · have:0≤t:=by omega
   by_cases h1:4294967295 < t
   · have h2:¬t≤4294967295:=by omega
     simp [h1,h2]
   · have h2:t≤4294967295:=by omega
     simp [h0,h1,this,h2]
theorem argE_R (e:Rw) (he:RwOk e):argE (rwE e)=if mayR e=true then (if argR e=true then 2 else 0) else 10:=by
 obtain ⟨dO,p,q,d,tm⟩:=e;rcases six he.k0 he.k1 with k | k | k | k | k | k<;>simp only at k<;>subst k
 · have e1:mayR ⟨1,p,q,d,tm⟩=mayB p:=by simp [mayR]
   have e2:argR ⟨1,p,q,d,tm⟩ = !timeB tm:=by simp only [argR,timR,lenR,namR,tim_no];simp
   show (if mayB p then (if timeB tm then (0:Int) else 2) else 10)=_
   rw [e1,e2]
   cases mayB p<;>cases timeB tm<;>rfl
 · have e1:mayR ⟨2,p,q,d,tm⟩=mayB p:=by simp [mayR]
   have e2:argR ⟨2,p,q,d,tm⟩=false:=by simp [argR,timR,lenR,namR]
   show (if mayB p then (0:Int) else 10)=_
   rw [e1,e2]
   cases mayB p<;>rfl
 · have e1:mayR ⟨3,p,q,d,tm⟩=mayB p:=by simp [mayR]
   have e2:argR ⟨3,p,q,d,tm⟩=false:=by simp [argR,timR,lenR,namR]
   show (if mayB p then (0:Int) else 10)=_
   rw [e1,e2]
   cases mayB p<;>rfl
 · have e1:mayR ⟨4,p,q,d,tm⟩=mayB p:=by simp [mayR]
   have e2:argR ⟨4,p,q,d,tm⟩ = !(timeB tm&&decide (1≤d.length)&&decide (d.length≤160)):=by
    simp only [argR,timR,lenR,namR,tim_no];by_cases h1:1≤d.length
    · have k1:¬d.length < 1:=by omega
      by_cases h2:d.length≤160
      · have k2:¬160 < d.length:=by omega
        simp [h1,h2,k1,k2]
      · have k2:160 < d.length:=by omega
        simp [h2,k2]
    · have k1:d.length < 1:=by omega
      simp [h1,k1]
   show (if mayB p then (if timeB tm&&decide (1≤d.length)&&decide (d.length≤160) then (0:Int) else 2) else 10)=_
   rw [e1,e2];generalize (timeB tm&&decide (1≤d.length)&&decide (d.length≤160))=b
   cases mayB p<;>cases b<;>rfl
 · have e1:mayR ⟨5,p,q,d,tm⟩=(mayB p&&mayB q):=by simp [mayR]
   have e2:argR ⟨5,p,q,d,tm⟩=decide (q=p∨withinB q p=true):=by
    simp only [argR,timR,lenR,namR];by_cases h1:p=q
    · simp [h1]
    · have h2:¬q=p:=fun e=>h1 e.symm
      simp [h1,h2]
   show (if mayB p&&mayB q then (if q=p∨withinB q p=true then (2:Int) else 0) else 10)=_
   rw [e1,e2];by_cases K:q=p∨withinB q p=true
   · rw [if_pos K,decide_eq_true K];cases mayB p<;>cases mayB q<;>rfl
   · rw [if_neg K,decide_eq_false K];cases mayB p<;>cases mayB q<;>rfl
 · have e1:mayR ⟨6,p,q,d,tm⟩=mayB p:=by simp [mayR]
   have e2:argR ⟨6,p,q,d,tm⟩=false:=by simp [argR,timR,lenR,namR]
   show (if mayB p then (0:Int) else 10)=_
   rw [e1,e2]
   cases mayB p<;>rfl
theorem NextP.both {w w':World} {room:Nat} {r:Int × Tr} {e:Ending} (h:NextP w room r e w'):∃v,e=.returned (.tuple #[v,.int .i64 r.1])∧Below w.heap.size w w'∧(r.1=0→∃o,v=.pointer (some ⟨o,0,none⟩)∧TreeF w.heap.size w' o r.2 room):=by
 rcases h with ⟨h0,o,rfl,ht,hb⟩ | ⟨h0,rfl,hb⟩
 · exact ⟨_,by rw [h0],hb,fun _=>⟨o,rfl,ht⟩⟩
 · exact ⟨_,rfl,hb,fun k=>absurd k h0⟩
theorem iEf:(Tryz.prog.info? 99).map (·.size)=some 7:=by kernel_rfl
theorem load_ef {w:World} {g:Nat} {dO:Int} {p q d:By} {t m:Int} {pk:Bool} (hg:Has w g 99 (efC dO p q d t m pk)):(loadVar 99 ⟨g,0,none⟩).run Tryz.prog w=.ok (.agg (efC dO p q d t m pk)) w :=
 run_loadVar_row (P:=Tryz.prog) w g 99 99 _ (0,0) _ hg Tryz.underlying99 rfl iEf
theorem TreeO.aside2 {own:Nat→Prop} {w w':World} {t r:Nat} {L:Tr} {room:Nat} {cs:Array Value} {sv:Value} {es:List Rw} (h:TreeO own w t L room) (hr:Has w r 51 cs) (hs:ERow 0 w sv es) (hb:∀g,own g→g≠r→sv.ownBlock≠some g→w'.heap[g]? = w.heap[g]?) :
 TreeO (fun g=>own g∧sv.ownBlock≠some g) w' t L room:=by
 obtain ⟨v,h1,h2,h3⟩:=h.ex;have n1:t≠r:=by
  rintro rfl;unfold Has at h1 hr;rw [h1] at hr;injection hr with hr;injection hr with _ hr;revert hr;decide
 have m1:sv.ownBlock≠some t:=by
  intro e;obtain ⟨cur,hc⟩:=row_kindN hs e;unfold Has at h1;rw [hc] at h1;injection h1 with h1;injection h1 with _ h1;revert h1;decide
 have n2:∀b,v.ownBlock=some b→b≠r∧sv.ownBlock≠some b:=by
  intro b hb;obtain ⟨cur,hc⟩:=row_kindN h2 hb;refine ⟨?_,fun e=>?_⟩
  · rintro rfl
    unfold Has at hr;rw [hc] at hr;injection hr with hr;injection hr with _ hr;revert hr;decide
  · obtain ⟨cur',hc'⟩:=row_kindN hs e
    rw [hc'] at hc;injection hc with hc;injection hc with _ hc;revert hc;decide
 exact ⟨⟨v,(hb t h.op n1 m1).trans h1,row_of h2 (fun g hg=>hb g (h3 g hg) (n2 g hg).1 (n2 g hg).2),fun b hb=>⟨h3 b hb,(n2 b hb).2⟩⟩,⟨h.op,m1⟩⟩
def Log (r:Nat) (sv:Value) (g:Nat):Prop:=g=r∨sv.ownBlock=some g
theorem RDkI.done {own:Nat→Prop} {w w':World} {r tl ts:Nat} {sv:Value} {es:List Rw} {fused:Bool} {left:Int} {M:Mo} (h:RDkI own w r tl ts sv es fused left M) {B o:Nat} {L':Tr} {sv':Value} {left':Int} {M':Mo} {x:Rw}
 (hlow:∀g,own g→g < B) (ht:TreeF B w o L' M.room) (hu:Turn (Log r sv) w w') (hh:Has w' r 51 (rcells o ts sv' fused left')) (hr:ERow 0 w' sv' (es++[x])) (hv:sv'.ownBlock=sv.ownBlock∨∃b,sv'.ownBlock=some b∧w.heap.size≤b) (hB:B≤w.heap.size)
 (hn:M'.now=L') (hla:M'.last=M.last) (hsi:M'.since=M.since++[rwE x]) (hro:M'.room=M.room) (hg:GoodR M') (hf:FuseIs fused left' M'.fuse) (hx:RwOk x) (hl:M.since.length+1≤100000) :
 ∃own',RDkI own' w' r o ts sv' (es++[x]) fused left' M'∧Turn own w w'∧∀g,own' g→own g∨B≤g:=by
 obtain ⟨nb,k1,k2,k3,k4⟩:=ht.blocks;have hsvlt:∀b,sv'.ownBlock=some b→b < w'.heap.size:=fun b hb=>(World.ownsRow.lt hr b hb).2
 have hnb:∀g,nb g→w'.heap[g]? = w.heap[g]?:=fun g hg=>hu.block g (k3 g hg) (fun k=>by
  rcases k with e | e
  · have:=hlow r h.op;have:=k2 g hg;omega
  · have:=hlow g (h.osv g e);have:=k2 g hg;omega)
 refine ⟨fun g=>(own g∧sv.ownBlock≠some g)∨nb g∨sv'.ownBlock=some g,⟨?_,?_,hh,.inl ⟨h.op,?_⟩,?_,?_,hr,fun b hb=>.inr (.inr hb),?_,?_,hf,hg,?_,?_,?_⟩,hu.mono ?_,?_⟩
 · rintro g (e | e | e)
   · exact Nat.lt_of_lt_of_le (h.low g e.1) hu.size
   · exact Nat.lt_of_lt_of_le (k3 g e) hu.size
   · exact hsvlt g e
 · intro g e
   by_cases hgr:g=r
   · rw [hgr];exact hh.loose (by decide)
   · by_cases hgs:sv'.ownBlock=some g
     · obtain ⟨cur,hc⟩:=row_kindN hr hgs
       intro cs t2 q ho;rw [hc] at ho;injection ho with ho;injection ho with _ ho;rw [←ho];decide
     · rcases e with e | e | e
       · intro cs t q ho
         refine h.loose g e.1 cs t q ((hu.block g (h.low g e.1) (fun k=>?_)).symm.trans ho)
         rcases k with k | k
         · exact hgr k
         · exact e.2 k
       · intro cs t q ho
         exact k4 g e cs t q ((hnb g e).symm.trans ho)
       · exact absurd e hgs
 · intro e
   obtain ⟨cur,hc⟩:=row_kindN h.row e;have hd:=h.has;unfold Has at hd;rw [hc] at hd;injection hd with hd;injection hd with _ hd;revert hd;decide
 · rw [hn,hro];exact (k1.kept hnb).mono (fun g hg=>.inr (.inl hg))
 · rw [hla,hro]
   exact (h.t2.aside2 h.has h.row (fun g hg n1 n2=>hu.block g (h.low g hg) (fun k=>by
    rcases k with k | k
    · exact n1 k
    · exact n2 k))).mono (fun g hg=>.inl hg)
 · rw [List.map_append,h.effs,hsi];rfl
 · intro e he
   rcases List.mem_append.1 he with k | k
   · exact h.ok e k
   · rw [List.mem_singleton] at k;rw [k];exact hx
 · rw [hro];exact h.r0
 · rw [hro];exact h.r1
 · rw [hsi,List.length_append];exact hl
 · intro g k
   rcases k with e | e
   · rw [e];exact h.op
   · exact h.osv g e
 · rintro g (e | e | e)
   · exact .inl e.1
   · exact .inr (k2 g e)
   · rcases hv with k | ⟨b,kb,kw⟩
     · exact .inl (h.osv g (by rw [←k];exact e))
     · rw [kb] at e;injection e with e;rw [←e];exact .inr (by omega)
structure DoS (r b tl:Nat) (cs:Array Value) (W:World):Prop where
 c0:W.cell? ⟨r,0,none⟩=some (.pointer (some ⟨tl,0,none⟩))
 h:Has W b 99 cs
theorem DoS.on {r b tl:Nat} {cs:Array Value} {W W':World} (h:DoS r b tl cs W) (hb:Below W.heap.size W W'):DoS r b tl cs W' :=
 ⟨(hb.cell (p:=⟨r,0,none⟩) (block_lt_of_cell (a:=⟨r,0,none⟩) h.c0)).trans h.c0,h.h.kept hb h.h.inside⟩
structure DoE (b:Nat) (cs:Array Value) (W:World):Prop where
 h:Has W b 99 cs
theorem DoE.on {b:Nat} {cs:Array Value} {W W':World} (h:DoE b cs W) (hb:Below W.heap.size W W'):DoE b cs W':=⟨h.h.kept hb h.h.inside⟩
theorem step_build_ef {ops:Array Oper} {o:Oper} {a:Act} {w:World} {K:Act→World→Prop} {Q:Exit→Act→World→Prop} {E:Prop} (hw:Region.wanted o (yielded ops a.tmps)=true)
 (y:Operand) (ho:o.op=.buildSlice 49 1 #[(0,y)]) (x:Rw) (hx:a.eval y=.agg (rwC x))
 (h:K (a.put o.dst (.slice (some ⟨w.heap.size,0,none⟩) 1 1)) (w.alloc (.cells (rwC x) 99))):if Region.wanted o (yielded ops a.tmps)=true then Oper.wp Tryz.prog o a w K Q else E:=by
 rw [if_pos hw];unfold Oper.wp execOp;simp only [ho,Sem.run_bind,List.map_toArray,List.map_cons,List.map_nil,hx,run_build_ef w x,Result.andThen_ok];exact h
set_option maxHeartbeats 32000000 in
theorem rDo_any {own:Nat→Prop} {w:World} {r:Nat} {M:Mo} (h:RDk own w r M) (e:Rw) (he:RwOk e) (hp:e.p.length≤4000) (hq:e.q.length≤4000) (hlen:M.since.length+1≤100000) :
 Calls Tryz.prog 38 #[.pointer (some ⟨r,0,none⟩),.agg (rwC e)] w fun en w'=>en=.returned (.int .i64 (doM M (rwE e)).1)∧RPost own w r (doM M (rwE e)).2 w':=by
 have H:=hid h;obtain ⟨x,HX⟩:∃x,Hid (rwE e=x):=⟨_,rfl⟩;rw [HX.out];have HA:Hid (argE x=if mayR e=true then (if argR e=true then 2 else 0) else 10):=by show _=_;rw [←HX.out];exact argE_R e he
 have HRE:=hid he;have HLEN:=hid hlen;obtain ⟨mr,HMR⟩:∃v,Hid (mayR e=v):=⟨_,rfl⟩;obtain ⟨ar,HAR⟩:∃v,Hid (argR e=v):=⟨_,rfl⟩;rw [HMR.out,HAR.out] at HA;have CN:Hid (argE x=0→∀W u L,TreeR W u L M.room→WFT M.room L→TG L→Calls Tryz.prog 83 #[.pointer (some ⟨u,0,none⟩),.agg (rwC e)] W fun en w'=>NextP W M.room (nextE M.room L x) en w'):=fun ha W u L hT hW hG=>by
  obtain ⟨_,_,_,_,_,_,h⟩:=h;have:=rnext_any hT hW hG h.r1 e he (by rw [HX.out];exact ha) 0 false (Int.le_refl 0)
  rw [HX.out] at this;exact this
 obtain ⟨dO,p,q,d,tm⟩:=e;simp only at hp hq;have hld:d.length≤100000000:=he.ld;have hmr:mr=(mayB p&&(!(dO == 5)||mayB q)):=HMR.out.symm
 have har:ar=(((dO == 1||dO == 4)&&(decide (tm < 0)||decide (4294967295 < tm)))||((dO == 4)&&(decide (d.length < 1)||decide (160 < d.length)))||((dO == 5)&&(decide (p=q)||withinB q p))):=HAR.out.symm
 have hmr':=hid hmr;have har':=hid har;have hk0:=hid he.k0;have hk1:=hid he.k1;have hbx:Below w.heap.size w (w.alloc (.cells (rwC ⟨dO,p,q,d,tm⟩) 99)):=(Below.refl _ _).alloc (Nat.le_refl _) _;obtain ⟨b,HB⟩:∃b,Hid (w.heap.size=b):=⟨_,rfl⟩;have XB:Hid (Has (w.alloc (.cells (rwC ⟨dO,p,q,d,tm⟩) 99)) b 99 #[.int .i64 dO,kS p,kS q,kS d,.int .i64 tm,.int .i64 0,.bool false]):=by rw [←HB.out];exact Has.fresh _ _ _
 have B0:=hid hbx;obtain ⟨w1,HW1⟩:∃w1,Hid (w.alloc (.cells (rwC ⟨dO,p,q,d,tm⟩) 99)=w1):=⟨_,rfl⟩;replace XB:Hid (Has w1 b 99 #[.int .i64 dO,kS p,kS q,kS d,.int .i64 tm,.int .i64 0,.bool false]):=by rw [←HW1.out];exact XB.out
 replace B0:Hid (Below w.heap.size w w1):=by rw [←HW1.out];exact B0.out
 have R1:=hid (h.on B0.out);have CO:=hid (rOff_any R1.out);have HLP:Hid (p.length≤4000):=hp;have HLQ:Hid (q.length≤4000):=hq;have CMP:Hid (∀W,Calls Tryz.prog 62 #[kS p] W fun e w'=>e=.returned (.bool (mayB p))∧Below W.heap.size W w'):=fun W=>by
  have:=Rf.rmay_v (ba p) (mayB p) (by show mayB (tl (ba p))=_;rw [tl_ba]) W (by rw [ba_size];exact HLP.out)
  exact this
 have CMQ:Hid (∀W,Calls Tryz.prog 62 #[kS q] W fun e w'=>e=.returned (.bool (mayB q))∧Below W.heap.size W w'):=fun W=>by
  have:=Rf.rmay_v (ba q) (mayB q) (by show mayB (tl (ba q))=_;rw [tl_ba]) W (by rw [ba_size];exact HLQ.out)
  exact this
 have CWI:Hid (∀W,Calls Tryz.prog 55 #[kS q,kS p] W fun e w'=>e=.returned (.bool (withinB q p))∧Below W.heap.size W w'):=fun W=>by
  have:=Rf.rwithin_any (ba q) (ba p) W (by rw [ba_size];exact HLQ.out) (by rw [ba_size];exact HLP.out)
  rw [tl_ba,tl_ba] at this;exact this
 obtain ⟨mp,HMP⟩:∃v,Hid (mayB p=v):=⟨_,rfl⟩;obtain ⟨mq,HMQ⟩:∃v,Hid (mayB q=v):=⟨_,rfl⟩;obtain ⟨wi,HWI⟩:∃v,Hid (withinB q p=v):=⟨_,rfl⟩;rw [HMP.out] at CMP;rw [HMQ.out] at CMQ;rw [HWI.out] at CWI;have HMF:Hid (mr=(mp&&(!(dO == 5)||mq))):=by show _=_;rw [hmr'.out,HMP.out,HMQ.out]
 have HAF:Hid (ar=(((dO == 1||dO == 4)&&(decide (tm < 0)||decide (4294967295 < tm)))||((dO == 4)&&(decide (d.length < 1)||decide (160 < d.length)))||((dO == 5)&&(decide (p=q)||wi)))):=by show _=_;rw [har'.out,HWI.out]
 have hw1:=HW1.out;have hbs:=HB.out;have x0:=XB.out.at_ 0;have x1:=XB.out.at_ 1;have x2:=XB.out.at_ 2;have x3:=XB.out.at_ 3;have x4:=XB.out.at_ 4;have zd:(ba d).size=d.length:=ba_size d;have zpq:((ba p).toList == (ba q).toList)=decide (p=q):=eqS p q;clear h he hlen hmr har hbx hp hq;by_cases hf:M.fuse=0
 · have hfb:(M.fuse == 0)=true:=by simpa using hf
   have HD:Hid (doM M x=(20,M)):=by show _=_;unfold doM;rw [if_pos hf]
   rw [hfb] at CO;clear hf hfb x0 x1 x2 x3 x4 zd zpq;go_enter Tryz.func38,Tryz.ntmps38
   go_wp2_with fail
   refine CO.out.mono ?_;rintro e1 w1' ⟨rfl,rfl⟩;clear hw1 hbs;go_wp2;go_ret;rw [HD.out];exact ⟨rfl,RPost.refl H.out B0.out⟩
 have hfb:(M.fuse == 0)=false:=by simpa using hf
 rw [hfb] at CO;have HF:=hid hf;clear hf hfb;go_enter Tryz.func38,Tryz.ntmps38
 go_wp2_with fail
 refine CO.out.mono ?_;rintro e1 w1' ⟨rfl,rfl⟩;clear hw1 hbs;go_upto_region 3 with fail
 go_cut [23] (fun t w'=>t=.bool (!mr)∧Hid (Below w1.heap.size w1 w'))
 case first =>
  cases mp with
  | false =>
   go_wp2_with fail
   refine (CMP.out _).mono ?_;rintro e2 w2 ⟨rfl,hb2⟩;go_wp2_with fail
   go_meet;exact ⟨by rw [HMF.out];rfl,hb2⟩
  | true =>
   by_cases k5:dO=5
   · have q5:(dO == 5)=true:=by simpa using k5
     go_wp2_with fail
     refine (CMP.out _).mono ?_;rintro e2 w2 ⟨rfl,hb2⟩;have y0:=(XB.out.kept hb2 XB.out.inside).at_ 0;have y2:=(XB.out.kept hb2 XB.out.inside).at_ 2;have B2:=hid hb2;clear hb2 k5;go_wp2_with fail
     refine (CMQ.out _).mono ?_;rintro e3 w3 ⟨rfl,hb3⟩;have B3:Hid (Below w1.heap.size w1 w3):=B2.out.trans (hb3.mono B2.out.size);clear hb3;go_wp2_with fail
     go_meet;exact ⟨by rw [HMF.out,q5];cases mq<;>rfl,B3.out⟩
   · have q5:(dO == 5)=false:=by simpa using k5
     go_wp2_with fail
     refine (CMP.out _).mono ?_;rintro e2 w2 ⟨rfl,hb2⟩;have y0:=(XB.out.kept hb2 XB.out.inside).at_ 0;have B2:=hid hb2;clear hb2 k5;go_wp2_with fail
     go_meet;exact ⟨by rw [HMF.out,q5];rfl,B2.out⟩
 case rest =>
 obtain ⟨rfl,hb3⟩:=hcut;have XB3:=hid (XB.out.kept hb3.out XB.out.inside);have B3:Hid (Below w.heap.size w wc):=B0.out.trans (hb3.out.mono B0.out.size);clear hb3 x0 x1 x2 x3 x4
 cases mr with
 | false =>
  have HE:Hid (argE x=10):=by show _=_;rw [HA.out];rfl
  have HD:Hid (doM M x=(10,M)):=by show _=_;unfold doM;rw [if_neg HF.out,step_split,HE.out];rfl
  clear zd zpq;go_wp2;go_ret;rw [HD.out];exact ⟨rfl,RPost.refl H.out B3.out⟩
 | true =>
 have x0:=XB3.out.at_ 0;have x1:=XB3.out.at_ 1;have x2:=XB3.out.at_ 2;have x3:=XB3.out.at_ 3;have x4:=XB3.out.at_ 4;go_upto_region 5 with fail
 go_cut [77] (fun t w'=>t=.bool ar∧Hid (Below wc.heap.size wc w'))
 case first =>
  rcases six hk0.out hk1.out with k | k | k | k | k | k<;>(try simp only at k)<;>subst k
  · by_cases t0:tm < 0
    · go_wp2_with fail
      go_meet;exact ⟨by rw [HAF.out];simp [t0],Below.refl _ _⟩
    · by_cases t1:4294967295 < tm
      · go_wp2_with fail
        go_meet;exact ⟨by rw [HAF.out];simp [t0,t1],Below.refl _ _⟩
      · go_wp2_with fail
        go_meet;exact ⟨by rw [HAF.out];simp [t0,t1],Below.refl _ _⟩
  · go_wp2_with fail
    go_meet;exact ⟨by rw [HAF.out];simp,Below.refl _ _⟩
  · go_wp2_with fail
    go_meet;exact ⟨by rw [HAF.out];simp,Below.refl _ _⟩
  · by_cases t0:tm < 0
    · go_wp2_with fail
      go_meet;exact ⟨by rw [HAF.out];simp [t0],Below.refl _ _⟩
    · by_cases t1:4294967295 < tm
      · go_wp2_with fail
        go_meet;exact ⟨by rw [HAF.out];simp [t0,t1],Below.refl _ _⟩
      · have t2:¬(tm < 0):=t0
        by_cases l0:d.length < 1
        · have l0':((d.length:Nat):Int) < 1:=by omega
          go_wp2_with fail
          go_meet;exact ⟨by rw [HAF.out];simp [t0,t1,l0],Below.refl _ _⟩
        · have l0':¬((d.length:Nat):Int) < 1:=by omega
          by_cases l1:160 < d.length
          · have l1':(160:Int) < ((d.length:Nat):Int):=by omega
            go_wp2_with fail
            go_meet;exact ⟨by rw [HAF.out];simp [t0,t1,l0,l1],Below.refl _ _⟩
          · have l1':¬(160:Int) < ((d.length:Nat):Int):=by omega
            go_wp2_with fail
            go_meet;exact ⟨by rw [HAF.out];simp [t0,t1,l0,l1],Below.refl _ _⟩
  · by_cases e0:p=q
    · have zq:((ba p).toList == (ba q).toList)=true:=by rw [zpq];simpa using e0
      have e1:=hid e0;clear zpq e0;go_wp2_with fail
      go_meet;exact ⟨by rw [HAF.out,decide_eq_true e1.out];simp,Below.refl _ _⟩
    · have zq:((ba p).toList == (ba q).toList)=false:=by rw [zpq];simpa using e0
      have e1:=hid e0;clear zpq e0;go_wp2_with fail
      refine (CWI.out _).mono ?_;rintro e5 w5 ⟨rfl,hb5⟩;go_wp2_with fail
      go_meet;exact ⟨by rw [HAF.out,decide_eq_false e1.out];simp,hb5⟩
  · go_wp2_with fail
    go_meet;exact ⟨by rw [HAF.out];simp,Below.refl _ _⟩
 case rest =>
 obtain ⟨rfl,hb4⟩:=hcut;obtain ⟨wB,hWB⟩:∃v,v=wc:=⟨wc,rfl⟩;subst hWB;have XB4:=hid (XB3.out.kept hb4.out XB3.out.inside);have B4:Hid (Below w.heap.size w wB):=B3.out.trans (hb4.out.mono B3.out.size);clear hb4 x0 x1 x2 x3 x4 zd zpq
 cases ar with
 | true =>
  have HE:Hid (argE x=2):=by show _=_;rw [HA.out];rfl
  have HD:Hid (doM M x=(2,M)):=by show _=_;unfold doM;rw [if_neg HF.out,step_split,HE.out];rfl
  go_wp2;go_ret;rw [HD.out];exact ⟨rfl,RPost.refl H.out B4.out⟩
 | false =>
  have HE:Hid (argE x=0):=by show _=_;rw [HA.out];rfl
  have hst:stepE M.room M.now x=nextE M.room M.now x:=by rw [step_split,if_pos HE.out]
  obtain ⟨rr,HRR⟩:∃rr,Hid (nextE M.room M.now x=rr):=⟨_,rfl⟩;rw [HRR.out] at hst;have HST:=hid hst;obtain ⟨tl,ts,sv,es,fused,left,hI⟩:=H.out;have HI0:=hid hI;have B4d:=hid B4.out.drew;have HI4:Hid (RDkI own wB.drew r tl ts sv es fused left M):=hI.kept B4d.out.size (fun g hg=>B4d.out.block g (hI.low g hg))
  have CNX:Hid (Calls Tryz.prog 83 #[.pointer (some ⟨tl,0,none⟩),.agg (rwC ⟨dO,p,q,d,tm⟩)] wB.drew fun en w'=>NextP wB.drew M.room rr en w'):=by
   have:=CN.out HE.out wB.drew tl M.now HI4.out.t1.tree hI.good.good.w1 hI.good.t1;rw [HRR.out] at this;exact this
  have XB4d:Hid (Has wB.drew b 99 (rwC ⟨dO,p,q,d,tm⟩)):=XB4.out;have SD:Hid (DoS r b tl (rwC ⟨dO,p,q,d,tm⟩) wB.drew):=⟨HI4.out.has.at_ 0,XB4d.out⟩;clear hst hI;go_wp2;refine wp_region_noPanic ?_;refine wp_region_held_drew (S:=DoS r b tl (rwC ⟨dO,p,q,d,tm⟩)) (by kernel_rfl) (SD.out) (fun hS=>?_)
  generalize wB.drew=w5 at *;refine inI 0 ?_
  iterate 3
   refine stI (v:=?_) (by simp only [lkA,lkB,lkC];rfl) (by kernel_rfl) (fun _ _ _ h=>h) (by rfl) (by assumption) ?_ ?_
   rotate_left 1
   · intro w hSw
     go_simp
     with_reducible rfl
   simp only [Act.put,siA,siB,siC,Nat.reduceAdd]
  refine outI ?_;refine tkH 3 (v:=?_) (by simp only [lkA,lkB,lkC];rfl) (by kernel_rfl) (fun _ _ _ h=>h) (by rfl) (by assumption) ?_ ?_
  rotate_left 1
  · intro w hSw
    have hc:=hSw.c0;go_simp
    with_reducible rfl
  simp only [Act.put,siA,siB,siC];refine' wpAnyH_take (i:=4) (v:=_) (by simp only [lkA,lkB,lkC];rfl) (by kernel_rfl) (by kernel_rfl) (by kernel_rfl) (fun _ _ _ h=>h) (yields_loadA (by rfl) 99 (.tmp 3) rfl b 0 rfl (rwC ⟨dO,p,q,d,tm⟩) (fun w hSw=>load_ef hSw.h)) (by assumption) ?_
  simp only [Act.put,siA,siB,siC];refine wpAnyH_ready (rs:=[5]) (by kernel_rfl) (by simp) ?_
  refine AllReadyH.cons (by simp only [lkA,lkB,lkC];rfl) (fun K hK=>?_) AllReadyH.nil
  go_simp;refine (CNX.out).mono ?_;rintro e6 w6 hp6;obtain ⟨v6,rfl,hb6,ht6⟩:=hp6.both;have hz1:=SD.out.on hb6;refine hK.out _ _ hz1 (fun hS=>?_)
  clear hK K hS;refine inI 6 ?_
  iterate 5
   refine stI (v:=?_) (by simp only [lkA,lkB,lkC];rfl) (by kernel_rfl) (fun _ _ _ h=>h) (by rfl) (by assumption) ?_ ?_
   rotate_left 1
   · intro w hSw
     go_simp
     with_reducible rfl
   simp only [Act.put,siA,siB,siC,Nat.reduceAdd]
  refine outI ?_;refine wpAnyH_done (by kernel_rfl) ?_ _
  refine NoPanic.normal ?_;have HI6:Hid (RDkI own w6 r tl ts sv es fused left M):=HI4.out.kept hb6.size (fun g hg=>hb6.block g (HI4.out.low g hg))
  have HT6:=hid ht6;have XB6:=hid (XB4d.out.kept hb6 XB4d.out.inside);have B6:Hid (Below w.heap.size w w6):=B4d.out.trans (hb6.mono B4d.out.size);clear hb6 ht6;by_cases h0:rr.1=0
  · have q0:(rr.1 != 0)=false:=by simp [h0]
    obtain ⟨o,rfl,ht⟩:=HT6.out h0;have HTF:=hid (ht.mono B4d.out.size);obtain ⟨f2,HF2⟩:∃f2,Hid (burnF M.fuse=f2):=⟨_,rfl⟩;have HD:Hid (doM M x=(0,⟨rr.2,M.last,M.since++[x],f2,M.room⟩)):=by show _=_;unfold doM;rw [if_neg HF.out,HST.out,if_pos h0,HF2.out]
    have HGD:Hid (GoodR ⟨rr.2,M.last,M.since++[x],f2,M.room⟩):=by have:=HI6.out.good.do x;rw [HD.out] at this;exact this
    have HFB:Hid (FuseIs fused (wrap64 (left - 1)) f2):=by rw [←HF2.out];exact fuse_burn HI6.out.fu HF.out HI6.out.good.good.f1
    have c0:w6.cell? ⟨r,0,none⟩=some (.pointer (some ⟨tl,0,none⟩)):=HI6.out.has.at_ 0;have f0:=HI6.out.has.free 0;obtain ⟨w7,HW7⟩:∃w7,Hid (w6.setCell ⟨r,0,none⟩ (.pointer (some ⟨o,0,none⟩))=w7):=⟨_,rfl⟩;have hw7:=HW7.out;have P7:Hid (Has w7.drew r 51 (rcells o ts sv fused left)):=by rw [←HW7.out];exact HI6.out.has.put 0 _
    have U7:Hid (Turn (One r) w6 w7.drew):=by rw [←HW7.out];exact (Turn.set (own:=One r) w6 r 0 _ rfl).drew
    have hbr:b≠r:=fun e=>by have:=HI0.out.low r HI0.out.op;rw [←e,←HB.out] at this;omega
    have SD7:Hid (DoE b (rwC ⟨dO,p,q,d,tm⟩) w7.drew):=⟨(U7.out.block b XB6.out.inside (fun k=>hbr k)).trans XB6.out⟩
    have E7:Hid (ERow 0 w7.drew sv es):=HI6.out.row.aside HI6.out.has U7.out;obtain ⟨v9,w9,r9,e9,u9,o9⟩:=log_app (w:=w7.drew) E7.out ⟨dO,p,q,d,tm⟩ (by have:=congrArg List.length HI6.out.effs;rw [List.length_map] at this;have:=HI6.out.len;omega)
    obtain ⟨A9,n9,c9,rfl⟩:∃A n c,v9=.slice A n c:=by obtain ⟨A,c,e⟩:=e9.form;exact ⟨A,_,c,e⟩
    have R9:=hid r9;have E9:=hid e9;have U9:=hid u9;have O9:=hid o9;have hsr:¬sv.ownBlock=some r:=fun e=>by
     obtain ⟨cur,hc⟩:=row_kindN E7.out e;have hd:=P7.out;unfold Has at hd;rw [hc] at hd;injection hd with hd;injection hd with _ hd;revert hd;decide
    have hsb:¬sv.ownBlock=some b:=fun e=>by have:=HI0.out.low b (HI0.out.osv b e);rw [HB.out] at this;omega
    have P9:Hid (Has w9 r 51 (rcells o ts sv fused left)):=(U9.out.block r P7.out.inside hsr).trans P7.out;have SD9:Hid (DoE b (rwC ⟨dO,p,q,d,tm⟩) w9):=⟨(U9.out.block b SD7.out.h.inside hsb).trans SD7.out.h⟩;obtain ⟨w10,HW10⟩:∃w10,Hid (w9.setCell ⟨r,2,none⟩ (.slice A9 n9 c9)=w10):=⟨_,rfl⟩;have P10:Hid (Has w10 r 51 (rcells o ts (.slice A9 n9 c9) fused left)):=by rw [←HW10.out];exact P9.out.put 2 _
    have SD10:Hid (DoE b (rwC ⟨dO,p,q,d,tm⟩) w10):=by rw [←HW10.out];exact ⟨SD9.out.h.other hbr _⟩
    clear r9 e9 u9 o9 h0 hsr hsb ht;go_wp2;refine wp_region_noPanic ?_;refine wp_region_held_drew (S:=DoE b (rwC ⟨dO,p,q,d,tm⟩)) (by kernel_rfl) (SD7.out) (fun hS=>?_)
    generalize w7.drew=w8 at *;refine inI 0 ?_
    iterate 4
     refine stI (v:=?_) (by simp only [lkA,lkB,lkC];rfl) (by kernel_rfl) (fun _ _ _ h=>h) (by rfl) (by assumption) ?_ ?_
     rotate_left 1
     · intro w hSw
       go_simp
       with_reducible rfl
     simp only [Act.put,siA,siB,siC,Nat.reduceAdd]
    refine outI ?_;refine' wpAnyH_take (i:=5) (v:=_) (by simp only [lkA,lkB,lkC];rfl) (by kernel_rfl) (by kernel_rfl) (by kernel_rfl) (fun _ _ _ h=>h) (yields_loadA (by rfl) 99 (.tmp 3) rfl b 0 rfl (rwC ⟨dO,p,q,d,tm⟩) (fun w hSw=>load_ef hSw.h)) (by assumption) ?_
    simp only [Act.put,siA,siB,siC];refine wpAnyH_ready (rs:=[4,6]) (by kernel_rfl) (by simp) ?_
    refine AllReadyH.cons (by simp only [lkA,lkB,lkC];rfl) (fun K hK=>?_) (AllReadyH.cons (by simp only [lkA,lkB,lkC];rfl) (fun K hK=>?_) (AllReadyH.nil))
    · have hc:=P7.out.at_ 2
      go_simp;refine hK.out _ _ SD7.out (fun hS=>?_)
      clear hK K;refine wpAnyH_ready (rs:=[6]) (by kernel_rfl) (by simp) ?_
      refine AllReadyH.cons (by simp only [lkA,lkB,lkC];rfl) (fun K hK=>?_) (AllReadyH.nil)
      refine step_build_ef (by rfl) (.tmp 99) rfl ⟨dO,p,q,d,tm⟩ rfl ?_
      refine hK.out _ _ (SD7.out.on ((Below.refl _ _).alloc (Nat.le_refl _) _)) (fun hS=>?_)
      clear hK K;refine wpAnyH_ready (rs:=[7]) (by kernel_rfl) (by simp) ?_
      refine AllReadyH.cons (by simp only [lkA,lkB,lkC];rfl) (fun K hK=>?_) (AllReadyH.nil)
      refine step_append_run (by rfl) (.tmp 98) (.tmp 100) 49 49 rfl sv (.slice (some ⟨w8.heap.size,0,none⟩) 1 1) rfl rfl R9.out ?_
      refine hK.out _ _ SD9.out (fun hS=>?_)
      clear hK K;refine inI 8 ?_
      iterate 2
       refine stI (v:=?_) (by simp only [lkA,lkB,lkC];rfl) (by kernel_rfl) (fun _ _ _ h=>h) (by rfl) (by assumption) ?_ ?_
       rotate_left 1
       · intro w hSw
         go_simp
         with_reducible rfl
       simp only [Act.put,siA,siB,siC,Nat.reduceAdd]
      refine outI ?_;refine wpAnyH_ready (rs:=[10]) (by kernel_rfl) (by simp) ?_
      refine AllReadyH.cons (by simp only [lkA,lkB,lkC];rfl) (fun K hK=>?_) (AllReadyH.nil)
      have hc5:=P9.out.at_ 2;have hf5:=P9.out.free 2;have hw10:=HW10.out;go_simp;refine hK.out _ _ SD10.out (fun hS=>?_)
      clear hK K hc5 hf5 hw10;refine wpAnyH_done (by kernel_rfl) ?_ _
      refine NoPanic.normal ?_;have c4:w10.cell? ⟨r,4,none⟩=some (.int .i64 left):=P10.out.at_ 4;have f4:=P10.out.free 4;have h11:Has (w10.setCell ⟨r,4,none⟩ (.int .i64 (wrap64 (left - 1)))) r 51 (rcells o ts (.slice A9 n9 c9) fused (wrap64 (left - 1))):=P10.out.put 4 _;have H11:=hid h11;clear h11;go_wp2;go_ret;rw [HD.out];have u11:Turn (One r) w9 (w10.setCell ⟨r,4,none⟩ (.int .i64 (wrap64 (left - 1)))):=by
       have e:=HW10.out;subst e;exact (Turn.set (own:=One r) w9 r 2 _ rfl).then (Turn.set _ r 4 _ rfl)
      have e11:=E9.out.aside P9.out u11;have u12:Turn (Log r sv) w6 (w10.setCell ⟨r,4,none⟩ (.int .i64 (wrap64 (left - 1)))) :=
       ((U7.out.mono (fun g k=>.inl k)).then (U9.out.mono (fun g k=>.inr k))).then (u11.mono (fun g k=>.inl k))
      obtain ⟨own',i1,i2,i3⟩:=HI6.out.done (M':=⟨rr.2,M.last,M.since++[x],f2,M.room⟩) (fun g hg=>HI0.out.low g hg) HTF.out u12 H11.out e11 (by
       rcases O9.out with k | ⟨g,k1,k2⟩
       · exact .inl k
       · exact .inr ⟨g,k1,Nat.le_trans U7.out.size k2⟩) B6.out.size rfl rfl (by rw [←HX.out]) rfl HGD.out HFB.out HRE.out HLEN.out
      exact ⟨rfl,own',⟨_,_,_,_,_,_,i1⟩,(Turn.of_below B6.out).then i2,i3⟩
    · refine step_build_ef (by rfl) (.tmp 99) rfl ⟨dO,p,q,d,tm⟩ rfl ?_
      refine hK.out _ _ (SD7.out.on ((Below.refl _ _).alloc (Nat.le_refl _) _)) (fun hS=>?_)
      clear hK K;refine wpAnyH_ready (rs:=[4]) (by kernel_rfl) (by simp) ?_
      refine AllReadyH.cons (by simp only [lkA,lkB,lkC];rfl) (fun K hK=>?_) (AllReadyH.nil)
      have hc:=(P7.out.more (.cells (rwC ⟨dO,p,q,d,tm⟩) 99)).at_ 2;go_simp;refine hK.out _ _ (SD7.out.on ((Below.refl _ _).alloc (Nat.le_refl _) _)) (fun hS=>?_)
      clear hK K;refine wpAnyH_ready (rs:=[7]) (by kernel_rfl) (by simp) ?_
      refine AllReadyH.cons (by simp only [lkA,lkB,lkC];rfl) (fun K hK=>?_) (AllReadyH.nil)
      refine step_append_run (by rfl) (.tmp 98) (.tmp 100) 49 49 rfl sv (.slice (some ⟨w8.heap.size,0,none⟩) 1 1) rfl rfl R9.out ?_
      refine hK.out _ _ SD9.out (fun hS=>?_)
      clear hK K;refine inI 8 ?_
      iterate 2
       refine stI (v:=?_) (by simp only [lkA,lkB,lkC];rfl) (by kernel_rfl) (fun _ _ _ h=>h) (by rfl) (by assumption) ?_ ?_
       rotate_left 1
       · intro w hSw
         go_simp
         with_reducible rfl
       simp only [Act.put,siA,siB,siC,Nat.reduceAdd]
      refine outI ?_;refine wpAnyH_ready (rs:=[10]) (by kernel_rfl) (by simp) ?_
      refine AllReadyH.cons (by simp only [lkA,lkB,lkC];rfl) (fun K hK=>?_) (AllReadyH.nil)
      have hc5:=P9.out.at_ 2;have hf5:=P9.out.free 2;have hw10:=HW10.out;go_simp;refine hK.out _ _ SD10.out (fun hS=>?_)
      clear hK K hc5 hf5 hw10;refine wpAnyH_done (by kernel_rfl) ?_ _
      refine NoPanic.normal ?_;have c4:w10.cell? ⟨r,4,none⟩=some (.int .i64 left):=P10.out.at_ 4;have f4:=P10.out.free 4;have h11:Has (w10.setCell ⟨r,4,none⟩ (.int .i64 (wrap64 (left - 1)))) r 51 (rcells o ts (.slice A9 n9 c9) fused (wrap64 (left - 1))):=P10.out.put 4 _;have H11:=hid h11;clear h11;go_wp2;go_ret;rw [HD.out];have u11:Turn (One r) w9 (w10.setCell ⟨r,4,none⟩ (.int .i64 (wrap64 (left - 1)))):=by
       have e:=HW10.out;subst e;exact (Turn.set (own:=One r) w9 r 2 _ rfl).then (Turn.set _ r 4 _ rfl)
      have e11:=E9.out.aside P9.out u11;have u12:Turn (Log r sv) w6 (w10.setCell ⟨r,4,none⟩ (.int .i64 (wrap64 (left - 1)))) :=
       ((U7.out.mono (fun g k=>.inl k)).then (U9.out.mono (fun g k=>.inr k))).then (u11.mono (fun g k=>.inl k))
      obtain ⟨own',i1,i2,i3⟩:=HI6.out.done (M':=⟨rr.2,M.last,M.since++[x],f2,M.room⟩) (fun g hg=>HI0.out.low g hg) HTF.out u12 H11.out e11 (by
       rcases O9.out with k | ⟨g,k1,k2⟩
       · exact .inl k
       · exact .inr ⟨g,k1,Nat.le_trans U7.out.size k2⟩) B6.out.size rfl rfl (by rw [←HX.out]) rfl HGD.out HFB.out HRE.out HLEN.out
      exact ⟨rfl,own',⟨_,_,_,_,_,_,i1⟩,(Turn.of_below B6.out).then i2,i3⟩
  · have q0:(rr.1 != 0)=true:=by simpa using h0
    have HD:Hid (doM M x=(rr.1,M)):=by show _=_;unfold doM;rw [if_neg HF.out,HST.out,if_neg h0]
    clear h0;go_wp2;go_ret;rw [HD.out];exact ⟨rfl,RPost.refl H.out B6.out⟩
end Go.Proofs.YtahkcemdbfjilaaGreatDoor
