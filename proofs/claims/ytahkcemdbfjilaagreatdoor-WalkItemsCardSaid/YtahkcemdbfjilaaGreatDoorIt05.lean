/- Several texts in one. Conditions: those said at each. -/
import Derived.Test.YtahkcemdbfjilaaGreatDoorIt00
import Derived.Deep.RegionHeld3
import Derived.Test.YtahkcemdbfjilaaGreatDoorIt04
set_option linter.unusedSimpArgs false
set_option linter.unusedVariables false
set_option maxRecDepth 100000
namespace Go.Proofs.YtahkcemdbfjilaaGreatDoor
open Go.RowKit Go.Maps
structure Turn (own:Nat→Prop) (w w':World):Prop where
 os:w'.os=w.os
 tape:w'.tape=w.tape
 output:w'.output=w.output
 size:w.heap.size≤w'.heap.size
 block:∀g,g < w.heap.size→¬own g→w'.heap[g]? = w.heap[g]?
theorem Turn.refl (own:Nat→Prop) (w:World):Turn own w w:=⟨rfl,rfl,rfl,Nat.le_refl _,fun _ _ _=>rfl⟩
theorem Turn.of_below {own:Nat→Prop} {w w':World} (h:Below w.heap.size w w'):Turn own w w':=⟨h.os,h.tape,h.output,h.size,fun g hg _=>h.block g hg⟩
theorem Turn.of_grw {own:Nat→Prop} {w w':World} {g:Nat} (h:w.grownBy w' (some g)) (ho:own g):Turn own w w':=⟨h.os,h.tape,h.output,h.size,fun k hk hn=>h.block k hk (fun e=>by injection e with e;subst e;exact hn ho)⟩
theorem Turn.trans {own own':Nat→Prop} {a b c:World} (h:Turn own a b) (k:Turn own' b c) (ho:∀g,own' g→own g∨a.heap.size≤g):Turn own a c :=
 ⟨k.os.trans h.os,k.tape.trans h.tape,k.output.trans h.output,Nat.le_trans h.size k.size,fun g hg hn=>(k.block g (Nat.lt_of_lt_of_le hg h.size) (fun e=>by rcases ho g e with e | e;exact hn e;omega)).trans (h.block g hg hn)⟩
theorem Turn.then {own:Nat→Prop} {a b c:World} (h:Turn own a b) (k:Turn own b c):Turn own a c:=h.trans k (fun _ e=>.inl e)
theorem Turn.below {own:Nat→Prop} {w w':World} {B:Nat} (h:Turn own w w') (ho:∀g,own g→B≤g) (hB:B≤w.heap.size):Below B w w':=⟨h.os,h.tape,h.output,h.size,fun g hg=>h.block g (by omega) (fun e=>by have:=ho g e;omega)⟩
theorem Turn.set {own:Nat→Prop} (w:World) (g i:Nat) (v:Value) (ho:own g):Turn own w (w.setCell ⟨g,i,none⟩ v) :=
 ⟨rfl,rfl,rfl,by simp,fun k _ hn=>Below.heap_setCell w ⟨g,i,none⟩ v k (fun e=>hn (by have e:k=g:=e;rw [e];exact ho))⟩
section
variable {ops:Array Oper} {S:World→Prop} {o:Oper} {a:Act}
theorem yields_load (hw:Region.wanted o (yielded ops a.tmps)=true) (T:TypeId) (x:Operand) (ho:o.op=.load T x) (g off:Nat) (hx:a.eval x=.pointer (some ⟨g,off,none⟩)) (r:Value)
 (hS:∀w,S w→(loadVar T ⟨g,off,none⟩).run Tryz.prog w=.ok r w):YieldsIf Tryz.prog ops S o r a :=
 .inl ⟨hw,fun w hw'=>by
  unfold execOp;simp only [ho,hx,Instr.loadAt,Instr.sureAddr,Sem.run_bind,Sem.run_pure,Result.andThen_ok,hS w hw']⟩
theorem step_entry {w:World} {K:Act→World→Prop} {Q:Exit→Act→World→Prop} {E:Prop} (hw:Region.wanted o (yielded ops a.tmps)=true) {t:TypeId} (m x:Operand) (ho:o.op=.mapEntry t m x) (mv xv v:Value) (hm:a.eval m=mv) (hx:a.eval x=xv)
 {w':World} (hr:(Instr.mapEntry t mv xv).run Tryz.prog w=.ok v w') (hK:K (a.put o.dst v) w'):if Region.wanted o (yielded ops a.tmps)=true then Oper.wp Tryz.prog o a w K Q else E:=by
 rw [if_pos hw];unfold Oper.wp;simp [execOp,ho,hm,hx,hr,Result.andThen];exact hK
theorem step_entryStore {w:World} {K:Act→World→Prop} {Q:Exit→Act→World→Prop} {E:Prop} (hw:Region.wanted o (yielded ops a.tmps)=true) {t:TypeId} (m s x:Operand) (ho:o.op=.entryStore t m s x) (mv sv xv:Value) (hm:a.eval m=mv) (hs:a.eval s=sv) (hx:a.eval x=xv)
 {w':World} (hr:(Instr.entryStore t mv sv xv).run Tryz.prog w=.ok () w') (hK:K (a.put o.dst undef) w'):if Region.wanted o (yielded ops a.tmps)=true then Oper.wp Tryz.prog o a w K Q else E:=by
 rw [if_pos hw];unfold Oper.wp;simp [execOp,ho,hm,hs,hx,hr,Result.andThen];exact hK
end
theorem load_node {w:World} {g:Nat} {k:Int} {d x:By} {tm:Int} (h:Has w g 71 #[.int .i64 k,kS d,kS x,.int .i64 tm]):(loadVar 71 ⟨g,0,none⟩).run Tryz.prog w=.ok (nodeV ⟨k,d,x,tm⟩) w :=
 run_loadVar_row (P:=Tryz.prog) w g 71 71 #[.int .i64 k,kS d,kS x,.int .i64 tm] (0,0) _ h Tryz.underlying71 rfl (by kernel_rfl)
theorem TreeS.drew {w:World} {g o m:Nat} {t:TypeId} {cs:Array Value} {L:Tr} {u room:Nat} (h:TreeS w g o m t cs L u room):TreeS w.drew g o m t cs L u room:=h.kept rfl rfl
theorem TreeS.told {w:World} {g o m:Nat} {t:TypeId} {cs:Array Value} {L:Tr} {u room:Nat} (h:TreeS w g o m t cs L u room) (u':Nat) :
 TreeS (w.setCell ⟨g,o+1,none⟩ (.int .i64 (u':Int))) g o m t (cs.setIfInBounds (o+1) (.int .i64 (u':Int))) L u' room:=by
 have hlt:o+1 < cs.size:=(Array.getElem?_eq_some_iff.1 h.k1).1;exact ⟨h.has.put _ _,by rw [Array.getElem?_setIfInBounds_ne (by omega)];exact h.k0,by rw [Array.getElem?_setIfInBounds_self_of_lt hlt],by rw [Array.getElem?_setIfInBounds_ne (by omega)];exact h.k2,h.mp.kept (Below.heap_setCell w _ _ m h.ne),h.srt,h.ne,h.len⟩
theorem TreeS.same {w:World} {g o m:Nat} {t:TypeId} {cs:Array Value} {L:Tr} {u room:Nat} (h:TreeS w g o m t cs L u room):TreeS w g o m t (cs.setIfInBounds (o+1) (.int .i64 (u:Int))) L u room:=by
 have e:cs.setIfInBounds (o+1) (.int .i64 (u:Int))=cs:=by
  apply Array.ext_getElem?;intro i;rw [Array.getElem?_setIfInBounds];split
  · rename_i hi
    subst hi;split
    · exact h.k1.symm
    · rename_i hn
      rw [Array.getElem?_eq_none (by omega)]
  · rfl
 rw [e];exact h
structure PS (w0:World) (g o m:Nat) (t:TypeId) (cs:Array Value) (L:Tr) (u room bx:Nat) (nc:Array Value) (W:World):Prop where
 tr:TreeS W g o m t cs L u room
 box:Has W bx 71 nc
 bl:Below w0.heap.size w0 W
theorem PS.drew {w0 W:World} {g o m:Nat} {t:TypeId} {cs:Array Value} {L:Tr} {u room bx:Nat} {nc:Array Value} (h:PS w0 g o m t cs L u room bx nc W):PS w0 g o m t cs L u room bx nc W.drew :=
 ⟨h.tr.drew,h.box,h.bl.drew⟩
theorem PS.on {w0 W W':World} {g o m:Nat} {t:TypeId} {cs:Array Value} {L:Tr} {u room bx:Nat} {nc:Array Value} (h:PS w0 g o m t cs L u room bx nc W) (hb:Below W.heap.size W W'):PS w0 g o m t cs L u room bx nc W' :=
 ⟨h.tr.on hb (Nat.le_refl _),h.box.kept hb h.box.inside,h.bl.trans (hb.mono h.bl.size)⟩
def Two (g m k:Nat):Prop:=k=g∨k=m
structure BS (g o m bx:Nat) (nc:Array Value) (W:World):Prop where
 c0:W.cell? ⟨g,o,none⟩=some (.map (some m))
 box:Has W bx 71 nc
theorem TreeS.apart {w:World} {g o m:Nat} {t:TypeId} {cs:Array Value} {L:Tr} {u room bx:Nat} {tb:TypeId} {nc:Array Value} (h:TreeS w g o m t cs L u room) (hb:Has w bx tb nc):bx≠m:=fun e=>by
 obtain ⟨es,ck,hh,_⟩:=h.mp;unfold Has at hb;rw [e,hh] at hb;cases hb
theorem grown_has {w w':World} {m g:Nat} {t:TypeId} {cs:Array Value} (h:Has w g t cs) (hg:w.grownBy w' (some m)) (hne:g≠m):Has w' g t cs:=(hg.block g h.inside (fun e=>hne (Option.some.inj e))).trans h
set_option maxHeartbeats 4000000 in
theorem tput_any {w:World} {g o m:Nat} {t:TypeId} {cs:Array Value} {L:Tr} {u room:Nat} (h:TreeS w g o m t cs L u room) (hu:u=usedL L) (hur:u≤room) (hr:room≤1048576) (p:By) (hp:p.length≤4000) (n:Nd) (hn:n.data.length≤10000000) :
 Calls Tryz.prog 137 #[.pointer (some ⟨g,o,none⟩),kS p,nodeV n] w fun e w'=>e=.returned (.int .i64 (putE room L p n).1)∧Turn (Two g m) w w'∧TreeS w' g o m t (cs.setIfInBounds (o+1) (.int .i64 ((usedL (putE room L p n).2:Nat):Int))) (putE room L p n).2 (usedL (putE room L p n).2) room:=by
 obtain ⟨k,d,x,tm⟩:=n;simp only at hn;have hz:(ba d).size=d.length:=ba_size d;have q1:=useP_le h.srt p;have q3:=used_ins h.srt p ⟨k,d,x,tm⟩;obtain ⟨q,HQ⟩:∃q,Hid (useP L p=q):=⟨_,rfl⟩;have q2:q≤u:=by have:=HQ.out;omega
 obtain ⟨s,HT⟩:∃s,Hid (s=u - q+64+d.length):=⟨_,rfl⟩;have HN:Hid (useN ⟨k,d,x,tm⟩=64+d.length):=rfl;have hs:s≤20000000:=by have:=HT.out;omega
 have HS:Hid ((u:Int) - q+64+((ba d).size:Int)=(s:Int)):=by show _=_;have:=HT.out;omega
 have HI:Hid (s≤room→usedL (ins p ⟨k,d,x,tm⟩ L)=s):=by intro _;have:=HT.out;have:=HQ.out;have:=HN.out;omega
 have HP:Hid (s≤room→putE room L p ⟨k,d,x,tm⟩=(0,ins p ⟨k,d,x,tm⟩ L)):=by
  intro hc;unfold putE;rw [if_pos];have:=HT.out;have:=HQ.out;have:=HN.out;omega
 have HP0:Hid (¬s≤room→putE room L p ⟨k,d,x,tm⟩=(7,L)):=by
  intro hc;unfold putE;rw [if_neg];have:=HT.out;have:=HQ.out;have:=HN.out;omega
 have C0:Hid (∀W,TreeS W g o m t cs L u room→Calls Tryz.prog 177 #[.pointer (some ⟨g,o,none⟩),kS p] W fun e w'=>e=.returned (.int .i64 (q:Int))∧Below W.heap.size W w'):=by
  intro W hW;rw [←HQ.out];exact tuse_any hW p hp (by have:=HQ.out;omega)
 have P0:Hid (PS w g o m t cs L u room w.heap.size #[.int .i64 k,kS d,kS x,.int .i64 tm] (w.alloc (.cells #[.int .i64 k,kS d,kS x,.int .i64 tm] 71))) :=
  ⟨h.on ((Below.refl _ _).alloc (Nat.le_refl _) _) (Nat.le_refl _),Has.fresh _ _ _,(Below.refl _ _).alloc (Nat.le_refl _) _⟩
 have C1:=hid (C0.out _ P0.out.tr.drew);have hw1:IntKind.i64.wrap ((u:Int) - q)=(u:Int) - q:=IntWalk.i64_in _ (by omega)
 have hw2:IntKind.i64.wrap ((u:Int) - q+64)=(u:Int) - q+64:=IntWalk.i64_in _ (by omega)
 have hw3:IntKind.i64.wrap ((u:Int) - q+64+((ba d).size:Int))=(u:Int) - q+64+((ba d).size:Int):=IntWalk.i64_in _ (by omega)
 have HU:=hid hu;have hlen:=h.len;have HG:=hid h.has.inside;clear hu hz h q1 q3;show Calls Tryz.prog 137 #[.pointer (some ⟨g,o,none⟩),kS p,.agg #[.int .i64 k,kS d,kS x,.int .i64 tm]] w _
 by_cases hc:s≤room
 · have HE:=hid (HP.out hc)
   have HI2:=hid (HI.out hc);have hb:decide (room < s)=false:=by simpa using hc
   have hb2:decide ((room:Int) < (s:Int))=false:=by simpa using hc
   go_enter Tryz.func137,Tryz.ntmps137
   go_wp2;refine wp_region_noPanic ?_;refine wp_region_held_drew (S:=PS w g o m t cs L u room w.heap.size #[.int .i64 k,kS d,kS x,.int .i64 tm]) (by kernel_rfl) (P0.out.drew) (fun hS=>?_)
   refine inI 0 ?_
   iterate 3
    refine stI (v:=?_) (by simp only [lkA,lkB,lkC];rfl) (by kernel_rfl) (fun _ _ _ h=>h) (by rfl) (by assumption) ?_ ?_
    rotate_left 1
    · intro w hSw
      go_simp
      with_reducible rfl
    simp only [Act.put,siA,siB,siC,Nat.reduceAdd]
   refine outI ?_;refine tkH 3 (v:=?_) (by simp only [lkA,lkB,lkC];rfl) (by kernel_rfl) (fun _ _ _ h=>h) (by rfl) (by assumption) ?_ ?_
   rotate_left 1
   · intro w hSw
     have hc:=hSw.tr.c1;go_simp
     with_reducible rfl
   simp only [Act.put,siA,siB,siC];refine inI 4 ?_
   iterate 2
    refine stI (v:=?_) (by simp only [lkA,lkB,lkC];rfl) (by kernel_rfl) (fun _ _ _ h=>h) (by rfl) (by assumption) ?_ ?_
    rotate_left 1
    · intro w hSw
      go_simp
      with_reducible rfl
    simp only [Act.put,siA,siB,siC,Nat.reduceAdd]
   refine outI ?_;refine tkH 9 (v:=?_) (by simp only [lkA,lkB,lkC];rfl) (by kernel_rfl) (fun _ _ _ h=>h) (by rfl) (by assumption) ?_ ?_
   rotate_left 1
   · intro w hSw
     go_simp
     with_reducible rfl
   simp only [Act.put,siA,siB,siC];refine tkH 10 (v:=?_) (by simp only [lkA,lkB,lkC];rfl) (by kernel_rfl) (fun _ _ _ h=>h) (by rfl) (by assumption) ?_ ?_
   rotate_left 1
   · intro w hSw
     have hc:=hSw.box.at_ 1;go_simp
     with_reducible rfl
   simp only [Act.put,siA,siB,siC];refine tkH 11 (v:=?_) (by simp only [lkA,lkB,lkC];rfl) (by kernel_rfl) (fun _ _ _ h=>h) (by rfl) (by assumption) ?_ ?_
   rotate_left 1
   · intro w hSw
     go_simp
     with_reducible rfl
   simp only [Act.put,siA,siB,siC];refine wpAnyH_ready (rs:=[6]) (by kernel_rfl) (by simp) ?_
   refine AllReadyH.cons (by simp only [lkA,lkB,lkC];rfl) (fun K hK=>?_) AllReadyH.nil
   go_simp;refine (C1.out).mono ?_;rintro e1 w1 ⟨rfl,hb1⟩;have hz1:=P0.out.drew.on hb1;refine hK.out _ _ hz1 (fun hS=>?_)
   clear hK K hS;refine inI 7 ?_
   iterate 2
    refine stI (v:=?_) (by simp only [lkA,lkB,lkC];rfl) (by kernel_rfl) (fun _ _ _ h=>h) (by rfl) (by assumption) ?_ ?_
    rotate_left 1
    · intro w hSw
      go_simp
      with_reducible rfl
    simp only [Act.put,siA,siB,siC,Nat.reduceAdd]
   refine outI ?_;refine inI 12 ?_
   iterate 2
    refine stI (v:=?_) (by simp only [lkA,lkB,lkC];rfl) (by kernel_rfl) (fun _ _ _ h=>h) (by rfl) (by assumption) ?_ ?_
    rotate_left 1
    · intro w hSw
      go_simp
      with_reducible rfl
    simp only [Act.put,siA,siB,siC,Nat.reduceAdd]
   refine outI ?_;refine wpAnyH_done (by kernel_rfl) ?_ _
   refine NoPanic.normal ?_;have P1:=hid hz1;have hc2:=hz1.tr.c2;rw [HS.out];clear hz1 hb1 hw1 hw2 hw3;go_wp2;obtain ⟨v0,st,w5,e1,g1,e2⟩:=P1.out.tr.drew.mp.entry P1.out.tr.srt (by have:=P1.out.tr.len;omega) (p:=p) (maxLen_le hp) ⟨k,d,x,tm⟩
   have hbm:=P1.out.tr.apart P1.out.box;have hgm:=P1.out.tr.ne;have Bx5:=grown_has P1.out.drew.box g1 hbm;have Hg5:=grown_has P1.out.tr.drew.has g1 (Ne.symm hgm);obtain ⟨w6,e3,m6,g6⟩:=e2 w5 rfl;have Bx6:=grown_has Bx5 g6 hbm;have Hg6:=grown_has Hg5 g6 (Ne.symm hgm);have B1:Hid (BS g o m w.heap.size #[.int .i64 k,kS d,kS x,.int .i64 tm] w1.drew):=⟨P1.out.tr.c0,P1.out.box⟩;have B5:Hid (BS g o m w.heap.size #[.int .i64 k,kS d,kS x,.int .i64 tm] w5):=⟨(Hg5.at_ o).trans P1.out.tr.k0,Bx5⟩;have B6:Hid (BS g o m w.heap.size #[.int .i64 k,kS d,kS x,.int .i64 tm] w6):=⟨(Hg6.at_ o).trans P1.out.tr.k0,Bx6⟩;have hc6:w6.cell? ⟨g,o+1,none⟩=some (.int .i64 (u:Int)):=(Hg6.at_ (o+1)).trans P1.out.tr.k1;have hf6:w6.frozen? ⟨g,o+1,none⟩=false:=Hg6.free (o+1);have hbg:w.heap.size≠g:=Nat.ne_of_gt HG.out;have T6:Hid (TreeS w6 g o m t cs (ins p ⟨k,d,x,tm⟩ L) u room):=⟨Hg6,P1.out.tr.k0,P1.out.tr.k1,P1.out.tr.k2,m6,srt_ins P1.out.tr.srt _ _,hgm,by
    have h1:=used_len (L:=ins p ⟨k,d,x,tm⟩ L);have h2:=HI2.out;omega⟩
   have B7:Hid (BS g o m w.heap.size #[.int .i64 k,kS d,kS x,.int .i64 tm] (w6.setCell ⟨g,o+1,none⟩ (.int .i64 (s:Int)))):=⟨(T6.out.told s).c0,Bx6.other (p:=⟨g,o+1,none⟩) hbg _⟩;have T7:Hid (Turn (Two g m) w (w6.setCell ⟨g,o+1,none⟩ (.int .i64 (s:Int)))) :=
    ((((Turn.of_below P1.out.bl.drew).then (Turn.of_grw g1 (.inr rfl))).then (Turn.of_grw g6 (.inr rfl))).then (Turn.set w6 g (o+1) _ (.inl rfl)))
   have E1:=hid e1;have E2:=hid e3;clear e1 e2 e3 g1 g6 m6 Bx5 Bx6 Hg5 Hg6 hgm hbm hbg hc2 hlen;refine wp_region_noPanic ?_;refine wp_region_held_drew (S:=BS g o m w.heap.size #[.int .i64 k,kS d,kS x,.int .i64 tm]) (by kernel_rfl) (B1.out) (fun hS=>?_)
   refine inI 0 ?_
   iterate 3
    refine stI (v:=?_) (by simp only [lkA,lkB,lkC];rfl) (by kernel_rfl) (fun _ _ _ h=>h) (by rfl) (by assumption) ?_ ?_
    rotate_left 1
    · intro w hSw
      go_simp
      with_reducible rfl
    simp only [Act.put,siA,siB,siC,Nat.reduceAdd]
   refine outI ?_;refine tkH 3 (v:=?_) (by simp only [lkA,lkB,lkC];rfl) (by kernel_rfl) (fun _ _ _ h=>h) (by rfl) (by assumption) ?_ ?_
   rotate_left 1
   · intro w hSw
     have hc:=hSw.c0;go_simp
     with_reducible rfl
   simp only [Act.put,siA,siB,siC];refine inI 4 ?_
   iterate 2
    refine stI (v:=?_) (by simp only [lkA,lkB,lkC];rfl) (by kernel_rfl) (fun _ _ _ h=>h) (by rfl) (by assumption) ?_ ?_
    rotate_left 1
    · intro w hSw
      go_simp
      with_reducible rfl
    simp only [Act.put,siA,siB,siC,Nat.reduceAdd]
   refine outI ?_;refine' wpAnyH_take (i:=6) (v:=_) (by simp only [lkA,lkB,lkC];rfl) (by kernel_rfl) (by kernel_rfl) (by kernel_rfl) (fun _ _ _ h=>h) (yields_load (by rfl) 71 (.tmp 5) rfl w.heap.size 0 rfl (nodeV ⟨k,d,x,tm⟩) (fun w hS=>load_node hS.box)) (by assumption) ?_
   simp only [Act.put,siA,siB,siC];refine tkH 7 (v:=?_) (by simp only [lkA,lkB,lkC];rfl) (by kernel_rfl) (fun _ _ _ h=>h) (by rfl) (by assumption) ?_ ?_
   rotate_left 1
   · intro w hSw
     go_simp
     with_reducible rfl
   simp only [Act.put,siA,siB,siC];refine wpAnyH_ready (rs:=[8]) (by kernel_rfl) (by simp) ?_
   refine AllReadyH.cons (by simp only [lkA,lkB,lkC];rfl) (fun K hK=>?_) AllReadyH.nil
   refine step_entry (by rfl) (.tmp 30) (.tmp 31) rfl (.map (some m)) (kS p) _ rfl rfl E1.out ?_
   simp only [Act.put,siA,siB,siC];refine hK.out _ _ B5.out (fun hS=>?_)
   clear hK K hS;refine tkH 9 (v:=?_) (by simp only [lkA,lkB,lkC];rfl) (by kernel_rfl) (fun _ _ _ h=>h) (by rfl) (by assumption) ?_ ?_
   rotate_left 1
   · intro w hSw
     go_simp
     with_reducible rfl
   simp only [Act.put,siA,siB,siC];refine wpAnyH_ready (rs:=[10]) (by kernel_rfl) (by simp) ?_
   refine AllReadyH.cons (by simp only [lkA,lkB,lkC];rfl) (fun K hK=>?_) AllReadyH.nil
   refine step_entryStore (by rfl) (.tmp 30) (.tmp 36) (.tmp 33) rfl (.map (some m)) (goInt st) (nodeV ⟨k,d,x,tm⟩) rfl rfl rfl E2.out ?_
   simp only [Act.put,siA,siB,siC];refine hK.out _ _ B6.out (fun hS=>?_)
   clear hK K hS;refine inI 11 ?_
   iterate 2
    refine stI (v:=?_) (by simp only [lkA,lkB,lkC];rfl) (by kernel_rfl) (fun _ _ _ h=>h) (by rfl) (by assumption) ?_ ?_
    rotate_left 1
    · intro w hSw
      go_simp
      with_reducible rfl
    simp only [Act.put,siA,siB,siC,Nat.reduceAdd]
   refine outI ?_;refine wpAnyH_ready (rs:=[13]) (by kernel_rfl) (by simp) ?_
   refine AllReadyH.cons (by simp only [lkA,lkB,lkC];rfl) (fun K hK=>?_) AllReadyH.nil
   go_simp;refine hK.out _ _ B7.out (fun hS=>?_)
   clear hK K hS;refine wpAnyH_done (by kernel_rfl) ?_ _
   refine NoPanic.normal ?_;go_wp2;go_ret;rw [HE.out];simp only;rw [HI2.out];exact ⟨rfl,T7.out,T6.out.told s⟩
 · have HE:=hid (HP0.out hc)
   have hb:decide (room < s)=true:=by simpa using hc
   have hb2:decide ((room:Int) < (s:Int))=true:=by simpa using hc
   go_enter Tryz.func137,Tryz.ntmps137
   go_wp2;refine wp_region_noPanic ?_;refine wp_region_held_drew (S:=PS w g o m t cs L u room w.heap.size #[.int .i64 k,kS d,kS x,.int .i64 tm]) (by kernel_rfl) (P0.out.drew) (fun hS=>?_)
   refine inI 0 ?_
   iterate 3
    refine stI (v:=?_) (by simp only [lkA,lkB,lkC];rfl) (by kernel_rfl) (fun _ _ _ h=>h) (by rfl) (by assumption) ?_ ?_
    rotate_left 1
    · intro w hSw
      go_simp
      with_reducible rfl
    simp only [Act.put,siA,siB,siC,Nat.reduceAdd]
   refine outI ?_;refine tkH 3 (v:=?_) (by simp only [lkA,lkB,lkC];rfl) (by kernel_rfl) (fun _ _ _ h=>h) (by rfl) (by assumption) ?_ ?_
   rotate_left 1
   · intro w hSw
     have hc:=hSw.tr.c1;go_simp
     with_reducible rfl
   simp only [Act.put,siA,siB,siC];refine inI 4 ?_
   iterate 2
    refine stI (v:=?_) (by simp only [lkA,lkB,lkC];rfl) (by kernel_rfl) (fun _ _ _ h=>h) (by rfl) (by assumption) ?_ ?_
    rotate_left 1
    · intro w hSw
      go_simp
      with_reducible rfl
    simp only [Act.put,siA,siB,siC,Nat.reduceAdd]
   refine outI ?_;refine tkH 9 (v:=?_) (by simp only [lkA,lkB,lkC];rfl) (by kernel_rfl) (fun _ _ _ h=>h) (by rfl) (by assumption) ?_ ?_
   rotate_left 1
   · intro w hSw
     go_simp
     with_reducible rfl
   simp only [Act.put,siA,siB,siC];refine tkH 10 (v:=?_) (by simp only [lkA,lkB,lkC];rfl) (by kernel_rfl) (fun _ _ _ h=>h) (by rfl) (by assumption) ?_ ?_
   rotate_left 1
   · intro w hSw
     have hc:=hSw.box.at_ 1;go_simp
     with_reducible rfl
   simp only [Act.put,siA,siB,siC];refine tkH 11 (v:=?_) (by simp only [lkA,lkB,lkC];rfl) (by kernel_rfl) (fun _ _ _ h=>h) (by rfl) (by assumption) ?_ ?_
   rotate_left 1
   · intro w hSw
     go_simp
     with_reducible rfl
   simp only [Act.put,siA,siB,siC];refine wpAnyH_ready (rs:=[6]) (by kernel_rfl) (by simp) ?_
   refine AllReadyH.cons (by simp only [lkA,lkB,lkC];rfl) (fun K hK=>?_) AllReadyH.nil
   go_simp;refine (C1.out).mono ?_;rintro e1 w1 ⟨rfl,hb1⟩;have hz1:=P0.out.drew.on hb1;refine hK.out _ _ hz1 (fun hS=>?_)
   clear hK K hS;refine inI 7 ?_
   iterate 2
    refine stI (v:=?_) (by simp only [lkA,lkB,lkC];rfl) (by kernel_rfl) (fun _ _ _ h=>h) (by rfl) (by assumption) ?_ ?_
    rotate_left 1
    · intro w hSw
      go_simp
      with_reducible rfl
    simp only [Act.put,siA,siB,siC,Nat.reduceAdd]
   refine outI ?_;refine inI 12 ?_
   iterate 2
    refine stI (v:=?_) (by simp only [lkA,lkB,lkC];rfl) (by kernel_rfl) (fun _ _ _ h=>h) (by rfl) (by assumption) ?_ ?_
    rotate_left 1
    · intro w hSw
      go_simp
      with_reducible rfl
    simp only [Act.put,siA,siB,siC,Nat.reduceAdd]
   refine outI ?_;refine wpAnyH_done (by kernel_rfl) ?_ _
   refine NoPanic.normal ?_;have P1:=hid hz1;have hc2:=hz1.tr.c2;rw [HS.out];clear hz1 hb1 hw1 hw2 hw3;go_wp2;go_ret;rw [HE.out];simp only;rw [←HU.out];exact ⟨rfl,Turn.of_below P1.out.bl,P1.out.tr.same⟩
end Go.Proofs.YtahkcemdbfjilaaGreatDoor
namespace Go.Proofs.YtahkcemdbfjilaaGreatDoor
open Go.RowKit Go.Maps
theorem Turn.drew {own:Nat→Prop} {w w':World} (h:Turn own w w'):Turn own w w'.drew:=⟨h.os,h.tape,h.output,h.size,h.block⟩
end Go.Proofs.YtahkcemdbfjilaaGreatDoor
