/- Several texts in one. Conditions: those said at each. -/
import Derived.Test.YtahkcemdbfjilaaGreatDoorIt16
set_option linter.unusedSimpArgs false
set_option linter.unusedVariables false
set_option maxRecDepth 100000
namespace Go.Proofs.YtahkcemdbfjilaaGreatDoor
open Go.RowKit Go.Maps
def efC (dO:Int) (p q d:By) (t m:Int) (pk:Bool):Array Value:=#[.int .i64 dO,kS p,kS q,kS d,.int .i64 t,.int .i64 m,.bool pk]
structure Rw where
 dO:Int
 p:By
 q:By
 d:By
 tm:Int
def rwC (e:Rw):Array Value:=efC e.dO e.p e.q e.d e.tm 0 false
def rwE (e:Rw):Eff:=if e.dO=1 then .write e.p e.d e.tm else if e.dO=2 then .append e.p e.d else if e.dO=3 then .mkdir e.p else if e.dO=4 then .link e.p e.d e.tm else if e.dO=5 then .rename e.p e.q else .remove e.p
structure RwOk (e:Rw):Prop where
 k0:1≤e.dO
 k1:e.dO≤6
 ld:e.d.length≤100000000
 kk:e.dO=1∨e.dO=3∨e.dO=4
def ecells (es:List Rw):List Value:=es.flatMap fun e=>(rwC e).toList
def ERow (B:Nat) (w:World) (v:Value) (es:List Rw):Prop:=w.ownsRow B 99 7 v es.length (ecells es)
theorem ecells_snoc (es:List Rw) (e:Rw):ecells (es++[e])=ecells es++(rwC e).toList:=by simp [ecells]
theorem ERow.nil (B:Nat) (w:World):ERow B w (.slice none 0 0) []:=World.ownsRow_nil _ _ _ _
theorem ERow.form {B:Nat} {w:World} {v:Value} {es:List Rw} (h:ERow B w v es):∃A c,v=.slice A es.length c:=by
 rcases h.2 with ⟨h1,h2⟩ | ⟨g,c,cur,h1,_⟩
 · exact ⟨none,0,by rw [h1,h2]⟩
 · exact ⟨some ⟨g,0,none⟩,c,h1⟩
theorem infoEf:(Tryz.prog.info? 99).map (fun i=>(i.zero,i.size,i.bytes))=some (some (.agg #[.int .i64 0,.string ⟨#[]⟩,.string ⟨#[]⟩,.string ⟨#[]⟩,.int .i64 0,.int .i64 0,.bool false]),7,80):=by kernel_rfl
theorem append_ef (w:World) (B:Nat) (v:Value) (es:List Rw) (h:ERow B w v es) (x:Rw) (g:Nat) (hg:Has w g 99 (rwC x)) (hn:es.length≤100000) (hB:B≤w.heap.size) (ty:TypeId) :
 ∃v' w',(Builtin.append_ #[49,49] ty #[v,.slice (some ⟨g,0,none⟩) 1 1]).run Tryz.prog w=.ok v' w'∧ERow B w' v' (es++[x])∧w.grownBy w' v.ownBlock∧(v'.ownBlock=v.ownBlock∨v'.ownBlock=some w.heap.size):=by
 obtain ⟨i0,hi,hz0,hz1,hz2⟩:=info_parts infoEf;obtain ⟨v',w',hr,ho,hg',hx,hv⟩:=run_append_own_at (P:=Tryz.prog) w B 49 ty 99 i0 _ 7 80 Tryz.underlying49 hi hz0 hz1 hz2 (by simp [Value.cells]) (by omega) v es.length (ecells es) h ⟨g,0,none⟩ 1 1 (rwC x).toList rfl
  (fun j u hj=>by
    rw [add_at,Nat.zero_add,hg.at_ j];rw [←Array.getElem?_toList];exact hj) (fun u hu=>by
    simp only [rwC,efC,List.mem_cons,List.not_mem_nil,or_false] at hu;rcases hu with rfl | rfl | rfl | rfl | rfl | rfl | rfl<;>rfl) (by unfold maxLen;omega) (by omega) hB
 refine ⟨v',w',hr,?_,hg',?_⟩
 · unfold ERow
   rw [ecells_snoc,List.length_append];exact ho
 · exact hv
theorem run_build_ef (w:World) (x:Rw) :
 (Instr.buildSlice 49 1 #[(0,Value.agg (rwC x))]).run Tryz.prog w=.ok (.slice (some ⟨w.heap.size,0,none⟩) 1 1) (w.alloc (.cells (rwC x) 99)):=by
 have hI:(Tryz.prog.info? 99).map (fun i=>(i.size,i.zero))=some (7,some (.agg #[.int .i64 0,.string ⟨#[]⟩,.string ⟨#[]⟩,.string ⟨#[]⟩,.int .i64 0,.int .i64 0,.bool false])):=by kernel_rfl
 cases hie:Tryz.prog.info? 99 with
 | none=>rw [hie] at hI;cases hI
 | some ie =>
  rw [hie] at hI;simp only [Option.map_some,Option.some.injEq,Prod.mk.injEq] at hI;refine run_buildSlice (P:=Tryz.prog) w 49 99 1 _ _ ie _ Tryz.underlying49 hie hI.2 (by rw [hI.1];omega) (by rw [hI.1];omega) ?_
  rw [hI.1];refine (Great.fill_whole (s:=7) (by omega) [Value.agg (rwC x)] _ (fun v hv=>?_) (by simp)).trans (by simp [Value.cells])
  simp only [List.mem_singleton] at hv;subst hv;rfl
theorem row_kindN {w:World} {B n s:Nat} {e:TypeId} {v:Value} {xs:List Value} (h:w.ownsRow B e s v n xs) {b:Nat} (hb:v.ownBlock=some b):∃cur,w.heap[b]? = some (.cells cur e (0,0)):=by
 rcases h.2 with ⟨k1,_⟩ | ⟨g',c,cur,k1,_,k3,_⟩
 · rw [k1] at hb;cases hb
 · rw [k1] at hb;injection hb with hb;exact ⟨cur,by rw [←hb];exact k3⟩
structure TreeO (own:Nat→Prop) (w:World) (t:Nat) (L:Tr) (room:Nat):Prop where
 ex:∃v,Has w t 131 #[v,.int .i64 (room:Int)]∧TRow 0 w v L∧∀b,v.ownBlock=some b→own b
 op:own t
theorem TreeO.tree {own:Nat→Prop} {w:World} {t:Nat} {L:Tr} {room:Nat} (h:TreeO own w t L room):TreeR w t L room:=by
 obtain ⟨v,h1,h2,_⟩:=h.ex;exact ⟨v,h1,h2⟩
theorem TreeO.kept {own:Nat→Prop} {w w':World} {t:Nat} {L:Tr} {room:Nat} (h:TreeO own w t L room) (hb:∀g,own g→w'.heap[g]? = w.heap[g]?):TreeO own w' t L room:=by
 obtain ⟨v,h1,h2,h3⟩:=h.ex;exact ⟨⟨v,(hb t h.op).trans h1,row_of h2 (fun g hg=>hb g (h3 g hg)),h3⟩,h.op⟩
theorem TreeO.mono {own own':Nat→Prop} {w:World} {t:Nat} {L:Tr} {room:Nat} (h:TreeO own w t L room) (ho:∀g,own g→own' g):TreeO own' w t L room:=by
 obtain ⟨v,h1,h2,h3⟩:=h.ex;exact ⟨⟨v,h1,h2,fun b hb=>ho b (h3 b hb)⟩,ho t h.op⟩
theorem TreeF.blocks {B:Nat} {w:World} {t:Nat} {L:Tr} {room:Nat} (h:TreeF B w t L room):∃nb:Nat→Prop,TreeO nb w t L room∧(∀g,nb g→B≤g)∧(∀g,nb g→g < w.heap.size)∧∀g,nb g→Loose w g:=by
 obtain ⟨v,h1,h2⟩:=h.ex;refine ⟨fun g=>g=t∨v.ownBlock=some g,⟨⟨v,h1,h2.mono (Nat.zero_le _),fun b hb=>.inr hb⟩,.inl rfl⟩,?_,?_,?_⟩
 · rintro g (e | e)
   · rw [e];exact h.low
   · exact (World.ownsRow.lt h2 g e).1
 · rintro g (e | e)
   · rw [e];exact h1.inside
   · exact (World.ownsRow.lt h2 g e).2
 · rintro g (e | e)
   · rw [e];exact h1.loose (by decide)
   · obtain ⟨cur,hc⟩:=row_kindN h2 e
     intro cs t2 q ho;rw [hc] at ho;injection ho with ho;injection ho with _ ho;rw [←ho];decide
def rcells (tl ts:Nat) (sv:Value) (fused:Bool) (left:Int):Array Value:=#[.pointer (some ⟨tl,0,none⟩),.pointer (some ⟨ts,0,none⟩),sv,.bool fused,.int .i64 left]
def FuseIs (fused:Bool) (left f:Int):Prop:=(fused=false∧f = -1)∨(fused=true∧left=f∧0≤f)
structure RDkI (own:Nat→Prop) (w:World) (r tl ts:Nat) (sv:Value) (es:List Rw) (fused:Bool) (left:Int) (M:Mo):Prop where
 low:∀g,own g→g < w.heap.size
 loose:∀g,own g→Loose w g
 has:Has w r 51 (rcells tl ts sv fused left)
 op:own r
 t1:TreeO own w tl M.now M.room
 t2:TreeO own w ts M.last M.room
 row:ERow 0 w sv es
 osv:∀b,sv.ownBlock=some b→own b
 effs:es.map rwE=M.since
 ok:∀e∈es,RwOk e
 fu:FuseIs fused left M.fuse
 good:GoodR M
 r0:1024≤M.room
 r1:M.room≤1048576
 len:M.since.length≤100000
def RDk (own:Nat→Prop) (w:World) (r:Nat) (M:Mo):Prop:=∃tl ts sv es fused left,RDkI own w r tl ts sv es fused left M
theorem RDkI.kept {own:Nat→Prop} {w w':World} {r tl ts:Nat} {sv:Value} {es:List Rw} {fused:Bool} {left:Int} {M:Mo} (h:RDkI own w r tl ts sv es fused left M) (hs:w.heap.size≤w'.heap.size) (hb:∀g,own g→w'.heap[g]? = w.heap[g]?):RDkI own w' r tl ts sv es fused left M where
 low g hgo:=Nat.lt_of_lt_of_le (h.low g hgo) hs
 loose g hgo cs t q ho:=h.loose g hgo cs t q ((hb g hgo).symm.trans ho)
 has:=(hb r h.op).trans h.has
 op:=h.op
 t1:=h.t1.kept hb
 t2:=h.t2.kept hb
 row:=row_of h.row (fun g hgo=>hb g (h.osv g hgo))
 osv:=h.osv
 effs:=h.effs
 ok:=h.ok
 fu:=h.fu
 good:=h.good
 r0:=h.r0
 r1:=h.r1
 len:=h.len
theorem RDk.on {own:Nat→Prop} {w w':World} {r:Nat} {M:Mo} (h:RDk own w r M) (hb:Below w.heap.size w w'):RDk own w' r M:=by
 obtain ⟨tl,ts,sv,es,fused,left,h⟩:=h;exact ⟨tl,ts,sv,es,fused,left,h.kept hb.size (fun g hg=>hb.block g (h.low g hg))⟩
theorem RDk.turn {own own2:Nat→Prop} {w w':World} {r:Nat} {M:Mo} (h:RDk own w r M) (hu:Turn own2 w w') (ha:∀g,own g→¬own2 g):RDk own w' r M:=by
 obtain ⟨tl,ts,sv,es,fused,left,h⟩:=h;exact ⟨tl,ts,sv,es,fused,left,h.kept hu.size (fun g hg=>hu.block g (h.low g hg) (ha g hg))⟩
theorem RDk.low {own:Nat→Prop} {w:World} {r:Nat} {M:Mo} (h:RDk own w r M):∀g,own g→g < w.heap.size:=by obtain ⟨_,_,_,_,_,_,h⟩:=h;exact h.low
theorem RDk.loose {own:Nat→Prop} {w:World} {r:Nat} {M:Mo} (h:RDk own w r M):∀g,own g→Loose w g:=by obtain ⟨_,_,_,_,_,_,h⟩:=h;exact h.loose
theorem RDk.good {own:Nat→Prop} {w:World} {r:Nat} {M:Mo} (h:RDk own w r M):GoodR M:=by obtain ⟨_,_,_,_,_,_,h⟩:=h;exact h.good
def RPost (own:Nat→Prop) (w:World) (r:Nat) (M:Mo) (w':World):Prop :=
 ∃own',RDk own' w' r M∧Turn own w w'∧∀g,own' g→own g∨w.heap.size≤g
theorem RPost.refl {own:Nat→Prop} {w w':World} {r:Nat} {M:Mo} (h:RDk own w r M) (hb:Below w.heap.size w w'):RPost own w r M w' :=
 ⟨own,h.on hb,Turn.of_below hb,fun _ h=>.inl h⟩
end Go.Proofs.YtahkcemdbfjilaaGreatDoor
namespace Go.Proofs.YtahkcemdbfjilaaGreatDoor
open Go.RowKit Go.Maps
attribute [local go_sem] Oper.semAt_some
theorem weach_any (p:Nat) (root:By) (w:World):Calls Tryz.prog 25 #[.pointer (some ⟨p,0,none⟩),kS root] w fun e w' =>
 e=.returned (.func (.func 66) #[] #[.pointer (some ⟨w.heap.size,0,none⟩),.pointer (some ⟨w.heap.size+1,0,none⟩)])∧w'=(w.alloc (.cells #[.pointer (some ⟨p,0,none⟩)] 26)).alloc (.cells #[kS root] 9):=by
 go_enter Tryz.func25,Tryz.ntmps25
 go_wp2;go_ret;exact ⟨rfl,rfl⟩
abbrev InX (l:Tr):Type:={x:At // x∈l}
def encX {l:Tr} (x:InX l):Array Value:=#[kS x.1.1,nodeV x.1.2]
def plainX {l:Tr} (xs:List (InX l)):Tr:=xs.map (·.1)
theorem plainX_snoc {l:Tr} (xs:List (InX l)) (x:InX l):plainX (xs++[x])=plainX xs++[x.1]:=by simp [plainX]
theorem plainX_len {l:Tr} (xs:List (InX l)):(plainX xs).length=xs.length:=by simp [plainX]
theorem grown_none {w w':World} (h:Below w.heap.size w w'):w.grownBy w' none:=⟨h.os,h.tape,h.output,h.size,fun i hi _=>h.block i hi⟩
def KpE (W W':World):Prop:=∀(j:Nat) (cs:Array Value) (q:Nat × Nat),W.heap[j]? = some (Obj.cells cs 142 q)→W'.heap[j]? = some (Obj.cells cs 142 q)
theorem KpE.trans {A B C:World} (h:KpE A B) (k:KpE B C):KpE A C:=fun j cs q ho=>k j cs q (h j cs q ho)
theorem KpE.putObj (B:Nat) (W:World) (l:Nat) (o o':Obj) (_:B≤l) (hl:W.heap[l]? = some o) (ho:o.isCells=false) (_:o.isWalk=false):KpE W (W.putObj l o'):=fun j cs q h=>by
 by_cases e:j=l
 · subst e
   rw [hl] at h;injection h with h;rw [h] at ho;cases ho
 · exact (World.putObj_heap_other (fun k=>e k)).trans h
theorem KpE.of_below {W W':World} (h:Below W.heap.size W W'):KpE W W':=fun j _ _ ho=>(h.block j (Array.getElem?_eq_some_iff.1 ho).1).trans ho
theorem KpE.of_but {W W':World} {b:Nat} {t:TypeId} {cs:Array Value} (hb:Has W b t cs) (ht:t≠142) (h:∀j,j≠b→j < W.heap.size→W'.heap[j]? = W.heap[j]?):KpE W W':=fun j cs' q ho=>by
 refine (h j (fun e=>?_) (Array.getElem?_eq_some_iff.1 ho).1).trans ho
 subst e;unfold Has at hb;rw [hb] at ho;injection ho with ho;injection ho with _ ho;exact ht ho
theorem EntR.kp {B:Nat} {W W':World} {v:Value} {L:Tr} (h:EntR B W v L) (hk:KpE W W'):EntR B W' v L:=row_of h fun g hg=>by
 obtain ⟨cur,hc⟩:=row_kindN h hg;exact (hk g cur _ hc).trans hc.symm
theorem AtAt.loadE {w:World} {g o:Nat} {x:At} (h:AtAt w g o x):(loadVar 142 ⟨g,o,none⟩).run Tryz.prog w=.ok (.agg (atCells x)) w:=by
 refine run_loadVar_mid (P:=Tryz.prog) w g o 142 (atCells x).toList _ (fun j u hj=>?_) Tryz.underlying142 rfl (by show _=some 5;kernel_rfl)
 match j,hj with
 | 0,hj=>obtain rfl:=Option.some.inj hj;exact h.c0
 | 1,hj=>obtain rfl:=Option.some.inj hj;exact h.c1
 | 2,hj=>obtain rfl:=Option.some.inj hj;exact h.c2
 | 3,hj=>obtain rfl:=Option.some.inj hj;exact h.c3
 | 4,hj=>obtain rfl:=Option.some.inj hj;exact h.c4
 | j+5,hj=>simp [atCells] at hj
set_option maxHeartbeats 8000000 in
theorem each_stops (n:Nat) (hn:1≤n) {own:Nat→Prop} {w:World} {p:Nat} {M:Mo} (h:Dsk own w p M) (hG:Gd w) (root:By) (hr:root.length≤4000) (b1 b2:Nat) (h1:Has w b1 26 #[.pointer (some ⟨p,0,none⟩)]) (h2:Has w b2 9 #[kS root])
 (l:Tr) (hl:inL M.now root=l):SeqStopsK Fence.wide n Tryz.prog 66 #[.pointer (some ⟨b1,0,none⟩),.pointer (some ⟨b2,0,none⟩)] (fun x:InX l=>encX x) KpE (fun ys=>plainX ys=l) (fun pre=>plainX pre <+: l) l.length w:=fun il J Jx W hW hJ hJx hY h0=>by
 have CL:=hid (look_any (h.on hW) (hG.kept hW) root hr);rw [hl] at CL;have k1:W.cell? ⟨b1,0,none⟩=some (.pointer (some ⟨p,0,none⟩)):=(h1.kept hW h1.inside).at_ 0;have k2:W.cell? ⟨b2,0,none⟩=some (kS root):=(h2.kept hW h2.inside).at_ 0;have HJ:=hid hJ;have HY:=hid hY;have H0:=hid h0;obtain ⟨N,HN⟩:∃N,Hid (l.length=N):=⟨_,rfl⟩;have hN1:N≤100000:=by
  obtain ⟨m1,m2,sv,vs,h'⟩:=h;have e1:=h'.tr1.len;have e2:=len_in M.now root;rw [hl,HN.out] at e2;omega
 clear h hG hr h1 h2 hW hJ hJx hY h0 hl;refine callsIn_of_wp Tryz.func66 rfl trivial ?_ rfl;simp only [Tryz.ntmps66,List.size_toArray,List.length_cons,List.length_nil,Nat.reduceAdd,Nat.reduceSub,Array.replicate_succ,Array.replicate_zero,List.push_toArray,List.append_toArray,List.nil_append,List.cons_append];gi_wp2_with (refine ⟨trivial,?_⟩;gi_at_call 67;refine (callsIn_wide.2 CL.out).mono ?_;rintro e1 W1 ⟨v,rfl,hE,hb1⟩;obtain ⟨A,c,rfl⟩:=hE.form;rw [HN.out] at hE;rw [HN.out];have HE:=hid hE;have B1:=hid hb1;clear hE hb1)
 have J1:Hid (J [] W1):=HJ.out [] W W1 none H0.out (grown_none B1.out) (fun r e=>by cases e)
 gi_loopw [10] (fun i wr=>∃(k:Nat) (pre:List (InX l)),k≤N∧i=.int .i64 (k:Int)∧Hid (plainX pre=l.take k)∧Hid (J pre wr)∧Hid (EntR W.heap.size wr (.slice A N c) l))
  (fun i _=>N - (intOf i).toNat)
 case atStart=>exact ⟨0,[],Nat.zero_le _,rfl,rfl,J1.out,HE.out⟩
 case round =>
  obtain ⟨k,pre,hk,rfl,HP,HJs,HEs⟩:=hrel;by_cases hlt:k < N
  · have hkl:k < l.length:=by rw [HN.out];exact hlt
    obtain ⟨g,c',e,_,hat⟩:=HEs.out.at_ k hkl;injection e with e e2 e3;clear e2 e3;subst e;rw [getD_at hkl] at hat;have hmem:l[k]∈l:=List.getElem_mem hkl;have HT:Hid (l.take (k+1)=l.take k++[l[k]]):=List.take_succ_eq_append_getElem hkl;have HPL:Hid (pre.length < l.length):=by
     have:=congrArg List.length HP.out;rw [plainX_len,List.length_take] at this;show _ < _;omega
    generalize l[k]=y at hat hmem HT;obtain ⟨q,⟨kd,dt,tg,tm⟩⟩:=y;have HAT:=hid hat;have hlt2:(k:Int) < (N:Int):=by omega
    have h0:(0:Int)≤(k:Int):=by omega
    have w1':IntKind.i64.wrap ((k:Int)+1)=(k:Int)+1:=i64in _ (by omega) (by omega)
    obtain ⟨w2,hw2⟩:∃w2,wr.alloc (.cells #[kS q,.int .i64 kd,kS dt,kS tg,.int .i64 tm] 142)=w2:=⟨_,rfl⟩;have b12:Below wr.heap.size wr w2:=hw2▸(Below.refl _ _).alloc (Nat.le_refl _) _;have X2:Hid (Has w2 wr.heap.size 142 #[kS q,.int .i64 kd,kS dt,kS tg,.int .i64 tm]):=by rw [←hw2];exact Has.fresh _ _ _
    have x0:=X2.out.at_ 0;have A2:Hid (AtAt w2 wr.heap.size 0 (q,⟨kd,dt,tg,tm⟩)):=⟨X2.out.at_ 0,X2.out.at_ 1,X2.out.at_ 2,X2.out.at_ 3,X2.out.at_ 4⟩;have E2:=hid (HEs.out.on b12);have J2:Hid (J pre w2):=HJ.out pre wr w2 none HJs.out (grown_none b12) (fun r e=>by cases e)
    obtain ⟨fn,tmps,assign,body,hy,hR⟩:=HY.out pre ⟨(q,⟨kd,dt,tg,tm⟩),hmem⟩ w2 J2.out HPL.out;have hy2:(Instr.yield il #[kS q,.agg #[.int .i64 kd,kS dt,kS tg,.int .i64 tm]]).run Tryz.prog w2=.ok (.round il fn tmps assign body) w2:=hy;have HR:=hid hR;clear hat hkl b12 hy hR;gi_wp2_with (first
     | (refine listIn_load rfl 142 (.tmp 12) rfl g (k*5) rfl #[kS q,.int .i64 kd,kS dt,kS tg,.int .i64 tm] HAT.out.loadE ?_)
     | (refine listIn_load rfl 71 (.tmp 17) rfl wr.heap.size 1 rfl #[.int .i64 kd,kS dt,kS tg,.int .i64 tm] A2.out.node ?_))
    refine HR.out.mono ?_;rintro e W3 (⟨rfl,hJ3,hk3⟩ | ⟨rfl,hJx3⟩)
    · have J3:=hid hJ3
      have E3:=hid (E2.out.kp hk3);clear hJ3 hk3;gi_wp2;go_roundw
      case rel =>
       exact ⟨k+1,_,by omega,by go_num,(by show _=_;rw [plainX_snoc,HP.out,HT.out]),J3.out,E3.out⟩
      case measure=>simp [intOf];omega
    · have J3:=hid hJx3
      clear hJx3;gi_wp2;refine bodyPost_ret (results_none rfl _ _ _) rfl ?_;refine ⟨⟨_,rfl⟩,.inr ⟨_,?_,J3.out⟩⟩;rw [plainX_snoc,HP.out,←HT.out];exact List.take_prefix _ _
  · obtain rfl:k=N:=by omega
    gi_wp2;go_end0
    refine ⟨⟨_,rfl⟩,.inl ⟨pre,?_,HJs.out⟩⟩;rw [HP.out,List.take_of_length_le (by rw [HN.out];omega)]
end Go.Proofs.YtahkcemdbfjilaaGreatDoor
namespace Go.Proofs.YtahkcemdbfjilaaGreatDoor
open Go.RowKit Go.Maps Go.Lib Go.Sort
def flatB (r:By):Bool:=!decide (0≤Lib.indexByte r 47)
theorem flat_iff (r:By):flatB r=true↔47∉r:=by
 unfold flatB;have h:(0≤Lib.indexByte r 47)↔47∈r:=by
  induction r with
  | nil=>simp [Lib.indexByte]
  | cons c r ih =>
   have hg:=Lib.indexByte_ge r 47;rw [Lib.indexByte];by_cases hc:c=47
   · simp [hc]
   · have e1:(c == 47)=false:=by simpa using hc
     have e2:¬47=c:=fun e=>hc e.symm
     rw [e1,List.mem_cons];by_cases hn:Lib.indexByte r 47 = -1
     · have h0:¬47∈r:=fun k=>by have:=ih.2 k;omega
       simp [hn,e2,h0]
     · have h0:47∈r:=ih.1 (by omega)
       have e3:(Lib.indexByte r 47 == -1)=false:=by simpa using hn
       simp [e3,h0];omega
 simp [h]
def childL (L:Tr) (p:By):List By:=(innerL L p).filter flatB
def sortL (xs:List By):List By:=xs.mergeSort fun x y=>decide (x≤y)
def listM (L:Tr) (p:By):List By × Int:=if (!decide (p=[])&&!mayB p)=true then ([],10) else if noDirE L p=0 then (sortL (childL L p),0) else ([],noDirE L p)
theorem sortL_perm {xs ys:List By} (h:xs.Perm ys):sortL xs=sortL ys:=by
 have tr:∀a b c:By,decide (a≤b)=true→decide (b≤c)=true→decide (a≤c)=true:=fun a b c h1 h2=>by
  simp only [decide_eq_true_eq] at *;exact List.le_trans h1 h2
 have tot:∀a b:By,(decide (a≤b)||decide (b≤a))=true:=fun a b=>by
  simp only [Bool.or_eq_true,decide_eq_true_eq];exact List.le_total a b
 refine List.Perm.eq_of_pairwise (le:=fun a b:By=>decide (a≤b)=true) (fun a b _ _ h1 h2=>?_) (List.pairwise_mergeSort tr tot xs) (List.pairwise_mergeSort tr tot ys) (((List.mergeSort_perm xs _).trans h).trans (List.mergeSort_perm ys _).symm)
 simp only [decide_eq_true_eq] at h1 h2;exact List.le_antisymm h1 h2
def ListP (w:World) (r:List By × Int) (e:Ending) (w':World):Prop:=∃A c g,e=.returned (.tuple #[.slice A (r.1.length:Nat) c,.int .i64 r.2])∧Names w' A g r.1∧Below w.heap.size w w'
theorem ListP.none (w w':World) (c:Int) (hb:Below w.heap.size w w'):ListP w ([],c) (.returned (.tuple #[.slice none 0 0,.int .i64 c])) w' :=
 ⟨Option.none,0,0,rfl,⟨fun k=>absurd k (by simp),fun i k=>absurd k (by simp),fun k=>absurd k (by simp)⟩,hb⟩
set_option maxHeartbeats 2000000 in
theorem dListC_any (r:By) (w:World):Calls Tryz.prog 151 #[kS r] w fun e w'=>e=.returned (.bool (!flatB r))∧w'=w:=by
 have C:=hid (Tryz.strings_Contains_one (ba r) 47 w);have HF:Hid ((!flatB r)=decide (0≤Lib.indexByte r 47)):=by show _=_;unfold flatB;simp
 go_enter Tryz.func151,Tryz.ntmps151
 go_wp2_with fail
 refine C.out.mono ?_;rintro e1 w1 ⟨rfl,rfl⟩;go_wp2;go_ret;exact ⟨by rw [HF.out];rfl,rfl⟩
theorem putRow_below {α:Type} [Inhabited α] {enc:α→Value} {w0 w:World} {g q B:Nat} {d:Array α} (h:Below B w0 w) (hg:B≤g):Below B w0 (putRow enc (Sort.ahead w q) g 0 d):=below_putRow (enc:=enc) (q:=q) (d:=d) h hg
set_option maxHeartbeats 4000000 in
theorem del_any {w0 w:World} {v:Value} {xs:List By} (hb:Below w0.heap.size w0 w) (h:w.ownsRow w0.heap.size 9 1 v xs.length (xs.map kS)) (hn:xs.length≤100000) :
 Calls Tryz.prog 153 #[v,.func (.func 151) #[] #[]] w fun e w'=>∃v',e=.returned v'∧w'.ownsRow w0.heap.size 9 1 v' (xs.filter flatB).length ((xs.filter flatB).map kS)∧Below w0.heap.size w0 w':=by
 by_cases hv:v=.slice none 0 0
 · subst hv
   have h0:xs=[]:=by
    rcases h.2 with ⟨_,k2⟩ | ⟨g,c,cur,k1,_⟩
    · exact List.length_eq_zero_iff.1 k2
    · cases k1
   subst h0;have C:=hid (Tryz.slices_IndexFunc_empty (α:=By) none 0 (.func (.func 151) #[] #[]) w);have HB:=hid hb;have H:=hid h;clear hb h hn;go_enter Tryz.func153,Tryz.ntmps153
   go_wp2_with fail
   refine C.out.mono ?_;rintro e1 w1 ⟨rfl,rfl⟩;go_wp2;go_ret;exact ⟨_,rfl,H.out,HB.out⟩
 · obtain ⟨g,cap,rfl,g1,g2,g3,g4,g5,hH⟩:=holds_of_ownsRow (enc:=kS) h hv
   have hsz:xs.toArray.size=xs.length:=by simp
   have hgv:∀(W:World) (x:By),FnGives Tryz.prog 151 #[] #[kS x] (.bool (!flatB x)) W:=fun W x=>(dListC_any x W).mono fun e w' ⟨h1,h2⟩=>⟨h1,0,by rw [h2];rfl⟩
   have:=Tryz.slices_DeleteFunc kS (fun _=>rfl) (fun x=>!flatB x) 151 #[] (enters_of Tryz.func151 (by kernel_rfl) rfl) ([]:By) (fun w=>by kernel_rfl) g 0 cap xs.toArray w (fun W x _=>hgv W x) (fun _ _ _ x _=>hgv _ x) hH (by rw [hsz];omega) (by rw [hsz];omega)
   rw [hsz] at this;simp only [Bool.not_not] at this;refine this.mono ?_;rintro e w' ⟨rfl,q,rfl⟩;have hlen:((xs.filter flatB)++List.replicate (xs.length - (xs.filter flatB).length) ([]:By)).length=xs.length:=by
    have:=List.length_filter_le flatB xs;simp;omega
   refine ⟨_,rfl,?_,putRow_below hb g1⟩;have hr:=ownsRow_putRow (enc:=kS) (q:=q) (k:=(xs.filter flatB).length) (ys:=(xs.filter flatB)++List.replicate (xs.length - (xs.filter flatB).length) ([]:By)) h hlen (List.length_filter_le _ _);rw [List.take_left] at hr;exact hr
set_option maxHeartbeats 4000000 in
theorem sortNames_any {w0 w:World} {v:Value} {xs:List By} (hb:Below w0.heap.size w0 w) (h:w.ownsRow w0.heap.size 9 1 v xs.length (xs.map kS)) (hn:xs.length≤100000) :
 Calls Tryz.prog 155 #[v] w fun e w'=>e=.returned (.tuple #[])∧w'.ownsRow w0.heap.size 9 1 v (sortL xs).length ((sortL xs).map kS)∧Below w0.heap.size w0 w':=by
 by_cases hv:v=.slice none 0 0
 · subst hv
   have h0:xs=[]:=by
    rcases h.2 with ⟨_,k2⟩ | ⟨g,c,cur,k1,_⟩
    · exact List.length_eq_zero_iff.1 k2
    · cases k1
   subst h0;refine (Tryz.slices_Sort_string_none none 0 w).mono ?_;rintro e w' ⟨rfl,rfl⟩;have e0:sortL []=[]:=List.mergeSort_nil;rw [e0];exact ⟨rfl,h,hb⟩
 · obtain ⟨g,cap,rfl,g1,g2,g3,g4,g5,hH⟩:=holds_of_ownsRow (enc:=kS) h hv
   refine (Tryz.slices_Sort_string g 0 cap xs w hH g2 (by omega)).mono ?_
   rintro e w' ⟨rfl,n,os,rfl⟩;have hml:(sortL xs).length=xs.length:=List.length_mergeSort xs;refine ⟨rfl,?_,below_sorted (enc:=encStr) hb g1 hb.size⟩;have hr:=ownsRow_putRow (enc:=kS) (q:=n) (k:=xs.length) (ys:=sortL xs) h hml (Nat.le_refl _);rw [List.take_of_length_le (Nat.le_of_eq hml)] at hr;rw [hml];refine row_of hr fun g' hg'=>?_
   have eg:g=g':=by injection hg'
   subst eg;show ((putRow encStr (Sort.ahead w n) g 0 _).heap++os)[g]? = _
   rw [Array.getElem?_append_left]
   · rfl
   have e:∀d:Array By,(putRow encStr (Sort.ahead w n) g 0 d).heap.size=w.heap.size:=fun d=>by simp [putRow,mapBlock,Sort.ahead]
   rw [e];exact g2
section
variable {own:Nat→Prop} {w:World} {p:Nat} {M:Mo}
set_option maxHeartbeats 8000000 in
theorem dList_any (h:Dsk own w p M) (hG:Gd w) (s:By) (hs:s.length≤4000):Calls Tryz.prog 98 #[.pointer (some ⟨p,0,none⟩),kS s] w fun e w'=>ListP w (listM M.now s) e w':=by
 obtain ⟨m1,m2,sv,vs,h⟩:=h;have C1:=hid (dmade_any (m1:=m1) (h.has.at_ 0));have hW:=h.good.w1;have hmay:∀q,(look M.now q).isSome→q.length≤4000:=fun q hq=>by have:=(may_parts (hW.may q hq)).1;omega
 have CN:Hid (∀W,Below w.heap.size w W→Calls Tryz.prog 150 #[.pointer (some ⟨p,0,none⟩),kS s] W fun e w'=>e=.returned (.int .i64 (noDirE M.now s))∧Below W.heap.size W w'):=fun W hb=>by
  have:=tnoDir_any (h.on hb).tr1 s hs;exact this.mono fun e w' k=>by first | exact k | exact ⟨k.1,by rw [←k.2];exact Below.refl _ _⟩
 have CW:Hid (∀W,Below w.heap.size w W→Calls Tryz.prog 154 #[.pointer (some ⟨p,0,none⟩),kS s] W fun e w'=>InPost W (innerL M.now s) e w'):=fun W hb=>twithin_any (h.on hb).tr1 hmay s hs
 have CM:Hid (∀b,mayB s=b→Calls Tryz.prog 99 #[kS s] w fun e w'=>e=.returned (.bool b)∧Below w.heap.size w w'):=fun b hb=>mayk_any s b hb w hG hs
 have HL:Hid ((innerL M.now s).length≤100000):=by
  have h1:=inner_le M.now s;have h2:=h.tr1.len;show _≤_;omega
 have HLM:Hid (listM M.now s=if (!decide (s=[])&&!mayB s)=true then ([],10) else if noDirE M.now s=0 then (sortL (childL M.now s),0) else ([],noDirE M.now s)):=rfl
 obtain ⟨c,HC⟩:∃c,Hid (noDirE M.now s=c):=⟨_,rfl⟩;rw [HC.out] at CN HLM;have B0:Hid (Below w.heap.size w w):=Below.refl _ _;clear h hW hmay hG
 -- behind the look at the path
 by_cases hs0:s=[]
 · have z1:(ba s).toList=[]:=by rw [toList_tl,tl_ba,hs0]
   have HLN:Hid (listM M.now s=if c=0 then (sortL (childL M.now s),0) else ([],c)):=by
    show _=_;rw [HLM.out,if_neg (by simp [hs0])]
   clear hs0 HLM;by_cases hc:c=0
   · have HLO:Hid (listM M.now s=(sortL (childL M.now s),0)):=by show _=_;rw [HLN.out,if_pos hc]
     subst hc;go_enter Tryz.func98,Tryz.ntmps98
     go_wp2_with fail
     refine C1.out.mono ?_;rintro e1 w1 ⟨rfl,rfl⟩;go_wp2_with fail
     refine (CN.out _ B0.out).mono ?_;rintro e3 w3 ⟨rfl,hb3⟩;have B3:Hid (Below w.heap.size w w3):=B0.out.trans (hb3.mono B0.out.size);clear hb3;go_wp2_with fail
     refine (CW.out _ B3.out).mono ?_;rintro e4 w4 ⟨v,xs,rfl,hp,hrow,hb4⟩;have HP:=hid hp;have HR:=hid hrow;have HB4:=hid hb4;have HXL:Hid (xs.length≤100000):=by show _≤_;rw [hp.length_eq];exact HL.out
     clear hp hrow hb4;go_wp2_with fail
     refine (del_any HB4.out HR.out HXL.out).mono ?_;rintro e5 w5 ⟨v',rfl,hrow5,hb5⟩;have HR5:=hid hrow5;have HB5:=hid hb5;have HXF:Hid ((xs.filter flatB).length≤100000):=Nat.le_trans (List.length_filter_le _ _) HXL.out;clear hrow5 hb5;go_wp2_with fail
     refine (sortNames_any HB5.out HR5.out HXF.out).mono ?_;rintro e6 w6 ⟨rfl,hrow6,hb6⟩;have HSE:Hid (sortL (xs.filter flatB)=sortL (childL M.now s)):=sortL_perm (HP.out.filter _);rw [HSE.out] at hrow6;have HR6:=hid hrow6;have HB6:=hid hb6;clear hrow6 hb6;obtain ⟨A,cc,g,hv,hn⟩:=names_of_row HR6.out;subst hv;have HN:=hid hn;clear hn;go_wp2;go_ret2;rw [HLO.out];exact ⟨A,cc,g,rfl,HN.out,B3.out.trans (HB6.out.mono B3.out.size)⟩
   · have HLO:Hid (listM M.now s=([],c)):=by show _=_;rw [HLN.out,if_neg hc]
     have q0:(c == 0)=false:=by simpa using hc
     have q1:(c != 0)=true:=by simpa using hc
     clear hc;go_enter Tryz.func98,Tryz.ntmps98
     go_wp2_with fail
     refine C1.out.mono ?_;rintro e1 w1 ⟨rfl,rfl⟩;go_wp2_with fail
     refine (CN.out _ B0.out).mono ?_;rintro e3 w3 ⟨rfl,hb3⟩;have B3:=hid hb3;clear hb3;go_wp2;go_ret2;rw [HLO.out];exact ListP.none _ _ _ B3.out
 · have z1:¬(ba s).toList=[]:=by rw [toList_tl,tl_ba];exact hs0
   have z2:(ba s).toList.isEmpty=false:=by simpa using z1
   cases hm:mayB s with
   | false =>
    have CMF:=hid (CM.out false hm);have HLO:Hid (listM M.now s=([],10)):=by show _=_;rw [HLM.out,if_pos (by simp [hs0,hm])]
    clear hs0 HLM hm;go_enter Tryz.func98,Tryz.ntmps98
    go_wp2_with fail
    refine C1.out.mono ?_;rintro e1 w1 ⟨rfl,rfl⟩;go_wp2_with fail
    refine CMF.out.mono ?_;rintro e2 w2 ⟨rfl,hb2⟩;have B2:=hid hb2;clear hb2;go_wp2;go_ret2;rw [HLO.out];exact ListP.none _ _ _ B2.out
   | true =>
    have CMT:=hid (CM.out true hm);have HLN:Hid (listM M.now s=if c=0 then (sortL (childL M.now s),0) else ([],c)):=by
     show _=_;rw [HLM.out,if_neg (by simp [hm])]
    clear hs0 HLM hm;by_cases hc:c=0
    · have HLO:Hid (listM M.now s=(sortL (childL M.now s),0)):=by show _=_;rw [HLN.out,if_pos hc]
      subst hc;go_enter Tryz.func98,Tryz.ntmps98
      go_wp2_with fail
      refine C1.out.mono ?_;rintro e1 w1 ⟨rfl,rfl⟩;go_wp2_with fail
      refine CMT.out.mono ?_;rintro e2 w2 ⟨rfl,hb2⟩;have B0:=hid hb2;clear hb2;go_wp2_with fail
      refine (CN.out _ B0.out).mono ?_;rintro e3 w3 ⟨rfl,hb3⟩;have B3:Hid (Below w.heap.size w w3):=B0.out.trans (hb3.mono B0.out.size);clear hb3;go_wp2_with fail
      refine (CW.out _ B3.out).mono ?_;rintro e4 w4 ⟨v,xs,rfl,hp,hrow,hb4⟩;have HP:=hid hp;have HR:=hid hrow;have HB4:=hid hb4;have HXL:Hid (xs.length≤100000):=by show _≤_;rw [hp.length_eq];exact HL.out
      clear hp hrow hb4;go_wp2_with fail
      refine (del_any HB4.out HR.out HXL.out).mono ?_;rintro e5 w5 ⟨v',rfl,hrow5,hb5⟩;have HR5:=hid hrow5;have HB5:=hid hb5;have HXF:Hid ((xs.filter flatB).length≤100000):=Nat.le_trans (List.length_filter_le _ _) HXL.out;clear hrow5 hb5;go_wp2_with fail
      refine (sortNames_any HB5.out HR5.out HXF.out).mono ?_;rintro e6 w6 ⟨rfl,hrow6,hb6⟩;have HSE:Hid (sortL (xs.filter flatB)=sortL (childL M.now s)):=sortL_perm (HP.out.filter _);rw [HSE.out] at hrow6;have HR6:=hid hrow6;have HB6:=hid hb6;clear hrow6 hb6;obtain ⟨A,cc,g,hv,hn⟩:=names_of_row HR6.out;subst hv;have HN:=hid hn;clear hn;go_wp2;go_ret2;rw [HLO.out];exact ⟨A,cc,g,rfl,HN.out,B3.out.trans (HB6.out.mono B3.out.size)⟩
    · have HLO:Hid (listM M.now s=([],c)):=by show _=_;rw [HLN.out,if_neg hc]
      have q0:(c == 0)=false:=by simpa using hc
      have q1:(c != 0)=true:=by simpa using hc
      clear hc;go_enter Tryz.func98,Tryz.ntmps98
      go_wp2_with fail
      refine C1.out.mono ?_;rintro e1 w1 ⟨rfl,rfl⟩;go_wp2_with fail
      refine CMT.out.mono ?_;rintro e2 w2 ⟨rfl,hb2⟩;have B2:=hid hb2;clear hb2;go_wp2_with fail
      refine (CN.out _ B2.out).mono ?_;rintro e3 w3 ⟨rfl,hb3⟩;have B3:Hid (Below w.heap.size w w3):=B2.out.trans (hb3.mono B2.out.size);clear hb3;go_wp2;go_ret2;rw [HLO.out];exact ListP.none _ _ _ B3.out
end
end Go.Proofs.YtahkcemdbfjilaaGreatDoor
