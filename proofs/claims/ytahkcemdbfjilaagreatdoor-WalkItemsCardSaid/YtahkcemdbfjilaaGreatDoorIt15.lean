/- Several texts in one. Conditions: those said at each. -/
import Derived.Great.FillDense
import Derived.Test.YtahkcemdbfjilaaGreatDoorIt14
import Derived.RangeFuncNested
import Derived.RangeFuncBound
import Derived.RangeFuncCalls
import Derived.RangeFuncLeaves
import Derived.Shelf.Abstract
import Derived.Shelf.RegionOpen
import Derived.OwnWalkIn
import Derived.TacticsInMore
import Derived.LoopNIn
import Derived.LoopIn
import Derived.Deep.RegionHeld
set_option linter.unusedSimpArgs false
set_option linter.unusedVariables false
set_option maxRecDepth 100000
namespace Go.Proofs.YtahkcemdbfjilaaGreatDoor
open Go.RowKit Go.Maps
abbrev At:Type:=By × Nd
def at0:At:=([],n0)
def atCells (x:At):Array Value:=#[kS x.1,.int .i64 x.2.kind,kS x.2.data,kS x.2.target,.int .i64 x.2.time]
def tcells (L:Tr):List Value:=L.flatMap fun x=>(atCells x).toList
def TRow (B:Nat) (w:World) (v:Value) (L:Tr):Prop:=w.ownsRow B 73 5 v L.length (tcells L)
theorem tcells_snoc (L:Tr) (x:At):tcells (L++[x])=tcells L++(atCells x).toList:=by simp [tcells]
theorem tcells_at (L:Tr) (k:Nat) (hk:k < L.length) (j:Nat) (hj:j < 5):(tcells L)[k*5+j]? = (atCells (L.getD k at0)).toList[j]?:=by
 induction L generalizing k with
 | nil=>simp at hk
 | cons x r ih =>
  show ((atCells x).toList++tcells r)[k*5+j]? = _
  cases k with
  | zero =>
   rw [List.getElem?_append_left (by show 0*5+j < 5;omega)]
   simp [List.getD]
  | succ k =>
   rw [List.getElem?_append_right (by show 5≤(k+1)*5+j;omega)]
   rw [show (k+1)*5+j - (atCells x).toList.length=k*5+j by show (k+1)*5+j - 5=_;omega]
   rw [ih k (by simpa using hk)]
   simp [List.getD]
theorem TRow.nil (B:Nat) (w:World):TRow B w (.slice none 0 0) []:=World.ownsRow_nil _ _ _ _
theorem TRow.form {B:Nat} {w:World} {v:Value} {L:Tr} (h:TRow B w v L):∃A c,v=.slice A L.length c:=by
 rcases h.2 with ⟨h1,h2⟩ | ⟨g,c,cur,h1,_⟩
 · exact ⟨none,0,by rw [h1,h2]⟩
 · exact ⟨some ⟨g,0,none⟩,c,h1⟩
theorem TRow.mono {B B':Nat} {w:World} {v:Value} {L:Tr} (h:TRow B w v L) (hb:B'≤B):TRow B' w v L:=by
 refine ⟨h.1,?_⟩;rcases h.2 with h1 | ⟨g,c,cur,h1,h2,h3⟩
 · exact .inl h1
 · exact .inr ⟨g,c,cur,h1,Nat.le_trans hb h2,h3⟩
theorem TRow.on {B:Nat} {w w':World} {v:Value} {L:Tr} (h:TRow B w v L) (hb:Below w.heap.size w w'):TRow B w' v L:=row_of h fun g hg=>hb.block g (World.ownsRow.lt h g hg).2
structure AtAt (w:World) (g o:Nat) (x:At):Prop where
 c0:w.cell? ⟨g,o,none⟩=some (kS x.1)
 c1:w.cell? ⟨g,o+1,none⟩=some (.int .i64 x.2.kind)
 c2:w.cell? ⟨g,o+2,none⟩=some (kS x.2.data)
 c3:w.cell? ⟨g,o+3,none⟩=some (kS x.2.target)
 c4:w.cell? ⟨g,o+4,none⟩=some (.int .i64 x.2.time)
theorem AtAt.load {w:World} {g o:Nat} {x:At} (h:AtAt w g o x):(loadVar 73 ⟨g,o,none⟩).run Tryz.prog w=.ok (.agg (atCells x)) w:=by
 refine run_loadVar_mid (P:=Tryz.prog) w g o 73 (atCells x).toList _ (fun j u hj=>?_) Tryz.underlying73 rfl (by show _=some 5;kernel_rfl)
 match j,hj with
 | 0,hj=>obtain rfl:=Option.some.inj hj;exact h.c0
 | 1,hj=>obtain rfl:=Option.some.inj hj;exact h.c1
 | 2,hj=>obtain rfl:=Option.some.inj hj;exact h.c2
 | 3,hj=>obtain rfl:=Option.some.inj hj;exact h.c3
 | 4,hj=>obtain rfl:=Option.some.inj hj;exact h.c4
 | j+5,hj=>simp [atCells] at hj
theorem AtAt.node {w:World} {g o:Nat} {x:At} (h:AtAt w g o x):(loadVar 71 ⟨g,o+1,none⟩).run Tryz.prog w=.ok (.agg (ndA x.2.kind x.2.data x.2.target x.2.time)) w:=by
 refine run_loadVar_mid (P:=Tryz.prog) w g (o+1) 71 (ndA x.2.kind x.2.data x.2.target x.2.time).toList _ (fun j u hj=>?_) Tryz.underlying71 rfl (by show _=some 4;kernel_rfl)
 match j,hj with
 | 0,hj=>obtain rfl:=Option.some.inj hj;exact h.c1
 | 1,hj=>obtain rfl:=Option.some.inj hj;exact h.c2
 | 2,hj=>obtain rfl:=Option.some.inj hj;exact h.c3
 | 3,hj=>obtain rfl:=Option.some.inj hj;exact h.c4
 | j+4,hj=>simp at hj
theorem AtAt.on {w w':World} {g o:Nat} {x:At} (h:AtAt w g o x) (hb:Below w.heap.size w w'):AtAt w' g o x:=by
 have k:g < w.heap.size:=block_lt_of_cell (a:=⟨g,o,none⟩) h.c0;exact ⟨(hb.cell (p:=⟨g,o,none⟩) k).trans h.c0,(hb.cell (p:=⟨g,o+1,none⟩) k).trans h.c1,(hb.cell (p:=⟨g,o+2,none⟩) k).trans h.c2,(hb.cell (p:=⟨g,o+3,none⟩) k).trans h.c3,(hb.cell (p:=⟨g,o+4,none⟩) k).trans h.c4⟩
theorem TRow.at_ {B:Nat} {w:World} {v:Value} {L:Tr} (h:TRow B w v L) (k:Nat) (hk:k < L.length):∃g c,v=.slice (some ⟨g,0,none⟩) L.length c∧B≤g∧AtAt w g (k*5) (L.getD k at0):=by
 rcases h.2 with ⟨_,h3⟩ | ⟨g,c,cur,h3,hB,h4,h5⟩
 · omega
 · refine ⟨g,c,h3,hB,?_⟩
   subst h3;have hc:∀j,j < 5→∀u,(atCells (L.getD k at0)).toList[j]? = some u→w.cell? ⟨g,k*5+j,none⟩=some u:=fun j hj u hu=>by
    have:=World.ownsRow.cells (g:=g) h rfl (k*5+j) u (by rw [tcells_at L k hk j hj];exact hu)
    rwa [add_at,Nat.zero_add] at this
   exact ⟨hc 0 (by omega) _ rfl,hc 1 (by omega) _ rfl,hc 2 (by omega) _ rfl,hc 3 (by omega) _ rfl,hc 4 (by omega) _ rfl⟩
theorem infoAt:(Tryz.prog.info? 73).map (fun i=>(i.zero,i.size,i.bytes))=some (some (.agg #[.string ⟨#[]⟩,.int .i64 0,.string ⟨#[]⟩,.string ⟨#[]⟩,.int .i64 0]),5,64):=by kernel_rfl
theorem append_at (w:World) (B:Nat) (v:Value) (L:Tr) (h:TRow B w v L) (x:At) (g:Nat) (hg:Has w g 73 (atCells x)) (hn:L.length≤100000) (hB:B≤w.heap.size) (ty:TypeId) :
 ∃v' w',(Builtin.append_ #[64,64] ty #[v,.slice (some ⟨g,0,none⟩) 1 1]).run Tryz.prog w=.ok v' w'∧TRow B w' v' (L++[x])∧w.grownBy w' v.ownBlock:=by
 obtain ⟨i0,hi,hz0,hz1,hz2⟩:=info_parts infoAt;obtain ⟨v',w',hr,ho,hg',_,hv⟩:=run_append_own_at (P:=Tryz.prog) w B 64 ty 73 i0 _ 5 64 Tryz.underlying64 hi hz0 hz1 hz2 (by simp [Value.cells]) (by omega) v L.length (tcells L) h ⟨g,0,none⟩ 1 1 (atCells x).toList rfl
  (fun j u hj=>by
    rw [add_at,Nat.zero_add,hg.at_ j];rw [←Array.getElem?_toList];exact hj) (fun u hu=>by
    simp only [atCells,List.mem_cons,List.not_mem_nil,or_false] at hu;rcases hu with rfl | rfl | rfl | rfl | rfl<;>rfl) (by unfold maxLen;omega) (by omega) hB
 refine ⟨v',w',hr,?_,hg'⟩;unfold TRow;rw [tcells_snoc,List.length_append];exact ho
theorem run_build_at (w:World) (x:At) :
 (Instr.buildSlice 64 1 #[(0,Value.agg (atCells x))]).run Tryz.prog w=.ok (.slice (some ⟨w.heap.size,0,none⟩) 1 1) (w.alloc (.cells (atCells x) 73)):=by
 have hI:(Tryz.prog.info? 73).map (fun i=>(i.size,i.zero))=some (5,some (.agg #[.string ⟨#[]⟩,.int .i64 0,.string ⟨#[]⟩,.string ⟨#[]⟩,.int .i64 0])):=by kernel_rfl
 cases hie:Tryz.prog.info? 73 with
 | none=>rw [hie] at hI;cases hI
 | some ie =>
  rw [hie] at hI;simp only [Option.map_some,Option.some.injEq,Prod.mk.injEq] at hI;refine run_buildSlice (P:=Tryz.prog) w 64 73 1 _ _ ie _ Tryz.underlying64 hie hI.2 (by rw [hI.1];omega) (by rw [hI.1];omega) ?_
  rw [hI.1];refine (Great.fill_whole (s:=5) (by omega) [Value.agg (atCells x)] _ (fun v hv=>?_) (by simp)).trans (by simp [Value.cells])
  simp only [List.mem_singleton] at hv;subst hv;rfl
section
variable {ops:Array Oper} {o:Oper} {a:Act}
theorem step_build_at {w:World} {K:Act→World→Prop} {Q:Exit→Act→World→Prop} {E:Prop} (hw:Region.wanted o (yielded ops a.tmps)=true)
 (y:Operand) (ho:o.op=.buildSlice 64 1 #[(0,y)]) (x:At) (hx:a.eval y=.agg (atCells x))
 (h:K (a.put o.dst (.slice (some ⟨w.heap.size,0,none⟩) 1 1)) (w.alloc (.cells (atCells x) 73))):if Region.wanted o (yielded ops a.tmps)=true then Oper.wp Tryz.prog o a w K Q else E:=by
 rw [if_pos hw];unfold Oper.wp execOp;simp only [ho,Sem.run_bind,List.map_toArray,List.map_cons,List.map_nil,hx,run_build_at w x,Result.andThen_ok];exact h
end
structure TreeR (w:World) (t:Nat) (L:Tr) (room:Nat):Prop where
 ex:∃v,Has w t 131 #[v,.int .i64 (room:Int)]∧TRow 0 w v L
theorem TreeR.on {w w':World} {t:Nat} {L:Tr} {room:Nat} (h:TreeR w t L room) (hb:Below w.heap.size w w'):TreeR w' t L room:=by
 obtain ⟨v,h1,h2⟩:=h.ex;exact ⟨v,h1.kept hb h1.inside,h2.on hb⟩
structure TreeF (B:Nat) (w:World) (t:Nat) (L:Tr) (room:Nat):Prop where
 ex:∃v,Has w t 131 #[v,.int .i64 (room:Int)]∧TRow B w v L
 low:B≤t
theorem TreeF.tree {B:Nat} {w:World} {t:Nat} {L:Tr} {room:Nat} (h:TreeF B w t L room):TreeR w t L room:=by
 obtain ⟨v,h1,h2⟩:=h.ex;exact ⟨v,h1,h2.mono (Nat.zero_le _)⟩
theorem TreeF.mono {B B':Nat} {w:World} {t:Nat} {L:Tr} {room:Nat} (h:TreeF B w t L room) (hb:B'≤B):TreeF B' w t L room:=by
 obtain ⟨v,h1,h2⟩:=h.ex;exact ⟨⟨v,h1,h2.mono hb⟩,Nat.le_trans hb h.low⟩
theorem TreeF.on {B:Nat} {w w':World} {t:Nat} {L:Tr} {room:Nat} (h:TreeF B w t L room) (hb:Below w.heap.size w w'):TreeF B w' t L room:=by
 obtain ⟨v,h1,h2⟩:=h.ex;exact ⟨⟨v,h1.kept hb h1.inside,h2.on hb⟩,h.low⟩
structure TV (w:World) (t:Nat) (A:Option Addr) (n c:Nat) (L:Tr) (room:Nat):Prop where
 c0:w.cell? ⟨t,0,none⟩=some (.slice A n c)
 c1:w.cell? ⟨t,1,none⟩=some (.int .i64 (room:Int))
 len:L.length=n
 row:0 < n→∃g,A=some ⟨g,0,none⟩∧∀k,k < n→AtAt w g (k*5) (L.getD k at0)
theorem TreeR.view {w:World} {t:Nat} {L:Tr} {room:Nat} (h:TreeR w t L room):∃A n c,TV w t A n c L room:=by
 obtain ⟨v,h1,h2⟩:=h.ex;obtain ⟨A,c,rfl⟩:=h2.form;refine ⟨A,L.length,c,h1.at_ 0,h1.at_ 1,rfl,fun h0=>?_⟩
 obtain ⟨g,c',e,_,_⟩:=h2.at_ 0 h0;injection e with e1 _ _;refine ⟨g,e1,fun k hk=>?_⟩
 obtain ⟨g',c2,e',_,ha⟩:=h2.at_ k hk;injection e' with e2 _ _;have:g=g':=by rw [e1] at e2;injection e2 with e2;injection e2
 subst this;exact ha
theorem TV.on {w w':World} {t:Nat} {A:Option Addr} {n c:Nat} {L:Tr} {room:Nat} (h:TV w t A n c L room) (hb:Below w.heap.size w w'):TV w' t A n c L room:=by
 have k:t < w.heap.size:=block_lt_of_cell (a:=⟨t,0,none⟩) h.c0;refine ⟨(hb.cell (p:=⟨t,0,none⟩) k).trans h.c0,(hb.cell (p:=⟨t,1,none⟩) k).trans h.c1,h.len,fun h0=>?_⟩
 obtain ⟨g,e,ha⟩:=h.row h0;exact ⟨g,e,fun k hk=>(ha k hk).on hb⟩
theorem getD_at {L:Tr} {k:Nat} (hk:k < L.length):L.getD k at0=L[k]:=by rw [List.getD,List.getElem?_eq_getElem hk];rfl
theorem take_succD {L:Tr} {k:Nat} (hk:k < L.length):L.take (k+1)=L.take k++[L.getD k at0]:=by rw [getD_at hk];exact List.take_succ_eq_append_getElem hk
theorem drop_D {L:Tr} {k:Nat} (hk:k < L.length):L.drop k=L.getD k at0 :: L.drop (k+1):=by rw [getD_at hk];exact List.drop_eq_getElem_cons hk
theorem memD {L:Tr} {k:Nat} (hk:k < L.length):L.getD k at0∈L:=by rw [getD_at hk];exact List.getElem_mem hk
theorem lookD {L:Tr} (hs:Srt L) {k:Nat} (hk:k < L.length):look L (L.getD k at0).1=some (L.getD k at0).2:=mem_look hs (memD hk)
theorem used_takeD {L:Tr} {k:Nat} (hk:k < L.length):usedL (L.take (k+1))=usedL (L.take k)+(64+(L.getD k at0).2.data.length):=by
 rw [getD_at hk];exact used_take hk
end Go.Proofs.YtahkcemdbfjilaaGreatDoor
namespace Go.Proofs.YtahkcemdbfjilaaGreatDoor
open Go.RowKit Go.Maps
theorem infoEnt:(Tryz.prog.info? 142).map (fun i=>(i.zero,i.size,i.bytes))=some (some (.agg #[.string ⟨#[]⟩,.int .i64 0,.string ⟨#[]⟩,.string ⟨#[]⟩,.int .i64 0]),5,64):=by kernel_rfl
def EntR (B:Nat) (w:World) (v:Value) (L:Tr):Prop:=w.ownsRow B 142 5 v L.length (tcells L)
theorem EntR.nil (B:Nat) (w:World):EntR B w (.slice none 0 0) []:=World.ownsRow_nil _ _ _ _
theorem EntR.form {B:Nat} {w:World} {v:Value} {L:Tr} (h:EntR B w v L):∃A c,v=.slice A L.length c:=by
 rcases h.2 with ⟨h1,h2⟩ | ⟨g,c,cur,h1,_⟩
 · exact ⟨none,0,by rw [h1,h2]⟩
 · exact ⟨some ⟨g,0,none⟩,c,h1⟩
theorem EntR.on {B:Nat} {w w':World} {v:Value} {L:Tr} (h:EntR B w v L) (hb:Below w.heap.size w w'):EntR B w' v L:=row_of h fun g hg=>hb.block g (World.ownsRow.lt h g hg).2
theorem EntR.mono {B B':Nat} {w:World} {v:Value} {L:Tr} (h:EntR B w v L) (hb:B'≤B):EntR B' w v L:=by
 refine ⟨h.1,?_⟩;rcases h.2 with h1 | ⟨g,c,cur,h1,h2,h3⟩
 · exact .inl h1
 · exact .inr ⟨g,c,cur,h1,Nat.le_trans hb h2,h3⟩
theorem EntR.at_ {B:Nat} {w:World} {v:Value} {L:Tr} (h:EntR B w v L) (k:Nat) (hk:k < L.length):∃g c,v=.slice (some ⟨g,0,none⟩) L.length c∧B≤g∧AtAt w g (k*5) (L.getD k at0):=by
 rcases h.2 with ⟨_,h3⟩ | ⟨g,c,cur,h3,hB,h4,h5⟩
 · omega
 · refine ⟨g,c,h3,hB,?_⟩
   subst h3;have hc:∀j,j < 5→∀u,(atCells (L.getD k at0)).toList[j]? = some u→w.cell? ⟨g,k*5+j,none⟩=some u:=fun j hj u hu=>by
    have:=World.ownsRow.cells (g:=g) h rfl (k*5+j) u (by rw [tcells_at L k hk j hj];exact hu)
    rwa [add_at,Nat.zero_add] at this
   exact ⟨hc 0 (by omega) _ rfl,hc 1 (by omega) _ rfl,hc 2 (by omega) _ rfl,hc 3 (by omega) _ rfl,hc 4 (by omega) _ rfl⟩
theorem append_ent (w:World) (B:Nat) (v:Value) (L:Tr) (h:EntR B w v L) (x:At) (g:Nat) (hg:Has w g 142 (atCells x)) (hn:L.length≤100000) (hB:B≤w.heap.size) (ty:TypeId) :
 ∃v' w',(Builtin.append_ #[139,139] ty #[v,.slice (some ⟨g,0,none⟩) 1 1]).run Tryz.prog w=.ok v' w'∧EntR B w' v' (L++[x])∧w.grownBy w' v.ownBlock:=by
 obtain ⟨i0,hi,hz0,hz1,hz2⟩:=info_parts infoEnt;obtain ⟨v',w',hr,ho,hg',_,hv⟩:=run_append_own_at (P:=Tryz.prog) w B 139 ty 142 i0 _ 5 64 Tryz.underlying139 hi hz0 hz1 hz2 (by simp [Value.cells]) (by omega) v L.length (tcells L) h ⟨g,0,none⟩ 1 1 (atCells x).toList rfl
  (fun j u hj=>by
    rw [add_at,Nat.zero_add,hg.at_ j];rw [←Array.getElem?_toList];exact hj) (fun u hu=>by
    simp only [atCells,List.mem_cons,List.not_mem_nil,or_false] at hu;rcases hu with rfl | rfl | rfl | rfl | rfl<;>rfl) (by unfold maxLen;omega) (by omega) hB
 refine ⟨v',w',hr,?_,hg'⟩;unfold EntR;rw [tcells_snoc,List.length_append];exact ho
theorem run_build_ent (w:World) (x:At) :
 (Instr.buildSlice 139 1 #[(0,Value.agg (atCells x))]).run Tryz.prog w=.ok (.slice (some ⟨w.heap.size,0,none⟩) 1 1) (w.alloc (.cells (atCells x) 142)):=by
 have hI:(Tryz.prog.info? 142).map (fun i=>(i.size,i.zero))=some (5,some (.agg #[.string ⟨#[]⟩,.int .i64 0,.string ⟨#[]⟩,.string ⟨#[]⟩,.int .i64 0])):=by kernel_rfl
 cases hie:Tryz.prog.info? 142 with
 | none=>rw [hie] at hI;cases hI
 | some ie =>
  rw [hie] at hI;simp only [Option.map_some,Option.some.injEq,Prod.mk.injEq] at hI;refine run_buildSlice (P:=Tryz.prog) w 139 142 1 _ _ ie _ Tryz.underlying139 hie hI.2 (by rw [hI.1];omega) (by rw [hI.1];omega) ?_
  rw [hI.1];refine (Great.fill_whole (s:=5) (by omega) [Value.agg (atCells x)] _ (fun v hv=>?_) (by simp)).trans (by simp [Value.cells])
  simp only [List.mem_singleton] at hv;subst hv;rfl
section
variable {ops:Array Oper} {Q:Exit→Act→World→Prop} {a:Act} {w:World} {rest:List Oper} {o:Oper}
theorem wpList_build_ent (hw:Region.wanted o (yielded ops a.tmps)=true) (y:Operand) (ho:o.op=.buildSlice 139 1 #[(0,y)]) (p:By) (k:Int) (d x:By) (t:Int) (hx:a.eval y=.agg #[kS p,.int .i64 k,kS d,kS x,.int .i64 t])
 (h:wpList Tryz.prog ops Q rest (a.put o.dst (.slice (some ⟨w.heap.size,0,none⟩) 1 1)) (w.alloc (.cells (atCells (p,⟨k,d,x,t⟩)) 142))):wpList Tryz.prog ops Q (o :: rest) a w :=
 wpList_wanted hw fun _ hK=>by
  unfold Oper.wp execOp;have e:=run_build_ent w (p,⟨k,d,x,t⟩);simp only [ho,Sem.run_bind,List.map_toArray,List.map_cons,List.map_nil,hx];unfold atCells at e;simp only at e;rw [e];exact hK _ _ h
end
theorem inL_snoc (L:Tr) (x:At) (root:By):inL (L++[x]) root=if (root++[47]).isPrefixOf x.1 then inL L root++[(x.1.drop (root.length+1),x.2)] else inL L root:=by
 unfold inL;rw [List.filterMap_append,List.filterMap_cons,List.filterMap_nil];by_cases h:(root++[47]).isPrefixOf x.1=true
 · simp only [h,if_true]
 · simp only [h];simp
set_option maxHeartbeats 8000000 in
theorem look_any {own:Nat→Prop} {w:World} {p:Nat} {M:Mo} (h:Dsk own w p M) (hG:Gd w) (root:By) (hr:root.length≤4000) :
 Calls Tryz.prog 67 #[.pointer (some ⟨p,0,none⟩),kS root] w fun e w'=>∃v,e=.returned v∧EntR w.heap.size w' v (inL M.now root)∧Below w.heap.size w w':=by
 have CP:=hid (dPaths_any h);obtain ⟨L,HL⟩:∃L,Hid (M.now=L):=⟨_,rfl⟩;obtain ⟨n,HN⟩:∃n,Hid (L.length=n):=⟨_,rfl⟩;have hn:n≤100000:=by
  obtain ⟨m1,m2,sv,vs,h'⟩:=h;rw [←HN.out,←HL.out];exact h'.tr1.len
 have HPL:Hid ((pathsL L).length=n):=by show _=_;unfold pathsL;rw [List.length_map];exact HN.out
 have HPA:Hid (∀k (hk:k < (pathsL L).length),(pathsL L)[k]=(L.getD k at0).1):=fun k hk=>by
  have hk2:k < L.length:=by rw [show (pathsL L).length=L.length from List.length_map _] at hk;exact hk
  rw [getD_at hk2];exact List.getElem_map _
 have CR:Hid (∀W,Below w.heap.size w W→∀k,k < n→Calls Tryz.prog 61 #[.pointer (some ⟨p,0,none⟩),kS (L.getD k at0).1] W fun e w'=>e=.returned (.tuple #[nodeV (L.getD k at0).2,.int .i64 0])∧Below W.heap.size W w'):=fun W hb k hk=>by
  have hW:=h.good.w1;have hk2:k < M.now.length:=by rw [HL.out,HN.out];exact hk
  have hl:=lookD hW.srt hk2;have hm:=hW.may (M.now.getD k at0).1 (by rw [hl];rfl)
  have:=dRead_any (h.on hb) (hG.kept hb) (M.now.getD k at0).1 (by have:=(may_parts hm).1;omega)
  unfold ReadP readM at this;rw [hm,hl] at this;rw [←HL.out];exact this
 rw [HL.out] at CP ⊢;have HB7:Hid (ba root++⟨#[47]⟩=ba (root++[47])):=ba_append root [47];have z1:(ba root).size≤4000:=by rw [ba_size];exact hr
 have CC:Hid (∀s W,Calls Tryz.prog 47 #[kS s,kS (root++[47])] W fun e w'=>e=.returned (.tuple #[kS (if (root++[47]).isPrefixOf s then s.drop (root++[47]).length else s),.bool ((root++[47]).isPrefixOf s)])∧W=w'):=fun s W=>cutPrefix_any s _ W
 have HDL:Hid ((root++[47]).length=root.length+1):=by show _=_;simp
 clear h hG hr;go_enter Tryz.func67,Tryz.ntmps67
 go_wp2_with fail
 refine CP.out.mono ?_;rintro e1 w1 ⟨A,c,g,rfl,hnm,hb1⟩;have NM:=hid hnm;have B1:=hid hb1;rw [HPL.out];clear hnm hb1;go_wp2;rw [HB7.out];go_loopw [6,18] (fun v6 v18 wr=>∃(k m c':Nat) (A':Option Addr),v18=.int .i64 (k:Int)∧k≤n∧v6=.slice A' m c'∧m≤k∧Hid ((inL (L.take k) root).length=m)∧Hid (EntR w1.heap.size wr (.slice A' m c') (inL (L.take k) root))∧Hid (Below w1.heap.size w1 wr))
  (fun _ v18 _=>n - (intOf v18).toNat)
 case atStart=>exact ⟨0,0,0,none,rfl,Nat.zero_le _,rfl,Nat.le_refl _,rfl,EntR.nil _ _,Below.refl _ _⟩
 case round =>
  obtain ⟨k,m,c',A',rfl,hk,rfl,hm,HM,HE,HB⟩:=hrel;by_cases hlt:k < n
  · have hlt2:(k:Int) < (n:Int):=by omega
    have h0:(0:Int)≤(k:Int):=by omega
    have hA:=NM.out.ad (by rw [HPL.out];omega)
    subst hA;have hkp:k < (pathsL L).length:=by rw [HPL.out];exact hlt
    have c0:wr.cell? ⟨g,k,none⟩=some (kS (L.getD k at0).1):=by
     rw [←HPA.out k hkp];exact (HB.out.cell (p:=⟨g,k,none⟩) (NM.out.low (by omega))).trans (NM.out.cell k hkp)
    have HBW:Hid (Below w.heap.size w wr):=B1.out.trans (HB.out.mono B1.out.size);have CR1:=hid (CR.out wr HBW.out k hlt);have HNX:Hid (inL (L.take (k+1)) root=if (root++[47]).isPrefixOf (L.getD k at0).1 then inL (L.take k) root++[((L.getD k at0).1.drop (root.length+1),(L.getD k at0).2)] else inL (L.take k) root):=by
     show _=_
     rw [take_succD (by rw [HN.out];exact hlt),inL_snoc]
    have w1':IntKind.i64.wrap ((k:Int)+1)=(k:Int)+1:=i64in _ (by omega) (by omega)
    generalize L.getD k at0=x at c0 CR1 HNX;obtain ⟨q,⟨kd,dt,tg,tm⟩⟩:=x;simp only at c0 HNX;have CR2:Hid (Calls Tryz.prog 61 #[.pointer (some ⟨p,0,none⟩),kS q] wr fun e w'=>e=.returned (.tuple #[.agg #[.int .i64 kd,kS dt,kS tg,.int .i64 tm],.int .i64 0])∧Below wr.heap.size wr w'):=CR1.out
    clear CR1;clear hkp
    cases hp:(root++[47]).isPrefixOf q with
    | false =>
     have CC1:Hid (∀W,Calls Tryz.prog 47 #[kS q,kS (root++[47])] W fun e w'=>e=.returned (.tuple #[kS q,.bool false])∧W=w'):=fun W=>by
      have:=CC.out q W;rw [hp] at this;exact this
     have HNY:Hid (inL (L.take (k+1)) root=inL (L.take k) root):=by show _=_;rw [HNX.out,hp];rfl
     clear hp;go_wp2_with (go_at_call 47;refine (CC1.out _).mono ?_;rintro e2 w2 ⟨rfl,rfl⟩)
     go_roundw
     case rel=>exact ⟨k+1,m,c',A',by go_num,by omega,rfl,by omega,(by rw [HNY.out];exact HM),(by rw [HNY.out];exact HE),HB⟩
     case measure=>simp [intOf];omega
    | true =>
     obtain ⟨r,HRr⟩:∃r,Hid (q.drop (root.length+1)=r):=⟨_,rfl⟩;have CC1:Hid (∀W,Calls Tryz.prog 47 #[kS q,kS (root++[47])] W fun e w'=>e=.returned (.tuple #[kS r,.bool true])∧W=w'):=fun W=>by
      have:=CC.out q W;rw [hp,HDL.out,HRr.out] at this;exact this
     have HNY:Hid (inL (L.take (k+1)) root=inL (L.take k) root++[(r,⟨kd,dt,tg,tm⟩)]):=by show _=_;rw [HNX.out,hp,HRr.out];rfl
     clear hp;go_wp2_with fail
     refine (CC1.out _).mono ?_;rintro e2 w2 ⟨rfl,rfl⟩;go_wp2_with fail
     refine CR2.out.mono ?_;rintro e3 w3 ⟨rfl,hb3⟩;have B3:Hid (Below w1.heap.size w1 w3):=HB.out.trans (hb3.mono HB.out.size);have E3:Hid (EntR w1.heap.size w3 (.slice A' m c') (inL (L.take k) root)):=HE.out.on hb3;clear hb3;obtain ⟨w4,hw4⟩:∃w4,w3.alloc (.cells (ndA kd dt tg tm) 71)=w4:=⟨_,rfl⟩;have b34:Below w3.heap.size w3 w4:=hw4▸(Below.refl _ _).alloc (Nat.le_refl _) _;have X4:Hid (Has w4 w3.heap.size 71 (ndA kd dt tg tm)):=by rw [←hw4];exact Has.fresh _ _ _
     have b45:Below w4.heap.size w4 (w4.alloc (.cells (atCells (r,⟨kd,dt,tg,tm⟩)) 142)):=(Below.refl _ _).alloc (Nat.le_refl _) _;have AP:=append_ent (w4.alloc (.cells (atCells (r,⟨kd,dt,tg,tm⟩)) 142)) w1.heap.size (.slice A' m c') (inL (L.take k) root) ((E3.out.on b34).on b45) (r,⟨kd,dt,tg,tm⟩) w4.heap.size (Has.fresh _ _ _) (by rw [HM.out];omega)
      (Nat.le_trans (Nat.le_trans B3.out.size b34.size) b45.size) 139
     obtain ⟨v5,w5,hr5,he5,hg5⟩:=AP;obtain ⟨A5,c5,rfl⟩:=he5.form;have HM5:Hid ((inL (L.take k) root++[((r,⟨kd,dt,tg,tm⟩):At)]).length=m+1):=by show _=_;rw [List.length_append,HM.out];rfl
     rw [HM5.out] at hr5 he5;have R5:=hid hr5;have E5:Hid (EntR w1.heap.size w5 (.slice A5 (m+1) c5) (inL (L.take (k+1)) root)):=by rw [HNY.out];exact he5
     have B5:Hid (Below w1.heap.size w1 w5):=by
      have q4:=B3.out.trans (b34.mono B3.out.size);have q5:=q4.trans (b45.mono q4.size);exact q5.grown hg5 q5.size (fun g hg=>(World.ownsRow.lt ((E3.out.on b34).on b45) g hg).1)
     clear hr5 he5 hg5 b34 b45;go_wp2_with (first
      | (refine wpList_load_nodeC rfl (.tmp 11) rfl w3.heap.size rfl kd dt tg tm X4.out ?_)
      | (refine wpList_build_ent (by rfl) (.tmp 38) rfl r kd dt tg tm rfl ?_)
      | (at_builtin;refine wpList_append_run rfl (.tmp 35) (.tmp 39) 139 139 rfl ⟨_,_,R5.out,?_⟩))
     go_roundw
     case rel=>exact ⟨k+1,m+1,c5,A5,by go_num,by omega,rfl,by omega,(by rw [HNY.out];exact HM5),E5,B5⟩
     case measure=>simp [intOf];omega
  · obtain rfl:k=n:=by omega
    have HF:Hid (inL (L.take k) root=inL L root):=by show _=_;rw [List.take_of_length_le (by rw [HN.out];omega)]
    go_wp2;go_ret;exact ⟨_,rfl,(by rw [←HF.out];exact HE.out.mono B1.out.size),B1.out.trans (HB.out.mono B1.out.size)⟩
end Go.Proofs.YtahkcemdbfjilaaGreatDoor
namespace Go.Proofs.YtahkcemdbfjilaaGreatDoor
open Go.RowKit
def calmOps (ops:Array Oper):Bool:=ops.all fun o=>match o.op with | .defer _=>false | _=>true
theorem calm_at {ops:Array Oper} (h:calmOps ops=true) {i:Nat} {o:Oper} (ho:ops[i]? = some o):∀c,o.op≠.defer c:=by
 intro c hc;have:=Array.all_eq_true.1 h i (Array.getElem?_eq_some_iff.1 ho).1;rw [(Array.getElem?_eq_some_iff.1 ho).2,hc] at this
 cases this
theorem wide_room (l n:Nat):(Fence.wide.inRound l).depth.isSome=true→1≤n:=by intro h;cases h
theorem oper_round {l n:Nat} {P:Program} {o:Oper} {a:Act} {w:World} {K:Act→World→Prop} {Q:Exit→Act→World→Prop} (hd:∀c,o.op≠.defer c) (h:o.wp P a w K Q):o.wpIn (Fence.wide.inRound l) n P a w K Q:=by
 unfold Oper.wpIn;refine ⟨fun _ _=>trivial,?_⟩
 rw [Oper.semAt_eq _ _ _ hd];unfold Oper.wp at h;revert h;generalize (execOp a.eval o).run P w=r;intro h
 cases r with
 | ok x w' =>
  cases x with
  | value v=>exact h
  | skip=>exact h
  | defer d=>exact h
  | enter f args=>exact ⟨wide_room l n,CallsIn.inRound l (callsIn_wide.2 h)⟩
  | row row args=>exact ⟨wide_room l n,fun c cs _=>let ⟨v,w2,r,s⟩:=h c cs;⟨v,w2,r,stepsIn_wide.2 s⟩⟩
  | round l f tmps assign body=>exact h.elim
  | _=>exact h.elim
 | halt x w' =>
  cases x with
  | panic v=>exact h
  | _=>exact h.elim
def OnlyN (Q:Exit→Act→World→Prop):Exit→Act→World→Prop
 | .normal,a,w=>Q .normal a w
 | _,_,_=>False
theorem OnlyN.normal {Q:Exit→Act→World→Prop} {a:Act} {w:World} (h:Q .normal a w):OnlyN Q .normal a w:=h
theorem OnlyN.imp {Q:Exit→Act→World→Prop}:∀(e:Exit) (a:Act) (w:World),OnlyN Q e a w→Q e a w:=fun e a w h=>by
 cases e<;>first | exact h | exact h.elim
theorem lets_no {Q:Exit→Act→World→Prop}:¬LetsOut (OnlyN Q):=by
 rintro ⟨a,w,h⟩;exact h
theorem any_round {l n:Nat} {P:Program} {md:Region.Mode} {ops:Array Oper} {Q:Exit→Act→World→Prop} (hd:calmOps ops=true):∀(fuel:Nat) (listed:Array Bool) (a:Act) (w:World),
 wpAny P md ops (OnlyN Q) fuel listed a w→wpAnyIn (Fence.wide.inRound l) n P md ops (OnlyN Q) fuel listed a w
 | 0,_,_,_,h=>h
 | fuel+1,listed,a,w,h=>⟨h.1,fun i hi=>by
  have h2:=h.2 i hi;unfold wpOp at h2;unfold wpOpIn
  cases ho:ops[i]? with
  | none=>rw [ho] at h2;exact any_round hd fuel _ _ _ h2
  | some o =>
   rw [ho] at h2;simp only at h2 ⊢;split
   · rename_i hw
     rw [if_pos hw] at h2;rcases h2 with k | k
     · exact Oper.wpIn_mono (fun a w h=>any_round hd fuel _ a w h) (oper_round (calm_at hd ho) k)
     · exact absurd k.2 lets_no
   · rename_i hw
     rw [if_neg hw] at h2;exact ⟨fun _ _=>trivial,any_round hd fuel _ _ _ h2⟩⟩
theorem region_round {l n:Nat} {P:Program} {id:Nat} {ops:Array Oper} {Q:Exit→Act→World→Prop} {a:Act} {w:World} {S:World→Prop} (hm:P.follows .mixedOrders=true) (hd:calmOps ops=true) (hS:S w.drew)
 (h:S w.drew→wpAnyH P .any ops (OnlyN Q) S ops.size (Array.replicate ops.size false) a w.drew):(Code.region id ops true).wpIn (Fence.wide.inRound l) n P Q a w :=
 wpIn_mono (wpIn_region_any hm (any_round hd _ _ _ _ (wpAny_of_held _ _ _ _ (h hS)))) OnlyN.imp
section
variable {F:Fence} {n:Nat} {P:Program} {ops:Array Oper} {rest:List Oper} {o:Oper} {a:Act} {w:World} {Q:Exit→Act→World→Prop}
theorem listIn_value (hw:Region.wanted o (yielded ops a.tmps)=true) (hd:∀c,o.op≠.defer c) (hab:o.about P w a.eval=none) (v:Value) (w':World) (hr:(execOp a.eval o).run P w=.ok (.value v) w') (h:wpListIn F n P ops Q rest (a.put o.dst v) w'):wpListIn F n P ops Q (o :: rest) a w :=
 BigFrame.wpListIn_want hw fun K hK=>by
  unfold Oper.wpIn;refine ⟨fun f hf=>(by rw [hab] at hf;cases hf),?_⟩
  rw [Oper.semAt_eq _ _ _ hd,hr];exact hK _ _ h
theorem listIn_load (hw:Region.wanted o (yielded ops a.tmps)=true) (ty:TypeId) (x:Operand) (ho:o.op=.load ty x) (g off:Nat) (hx:a.eval x=.pointer (some ⟨g,off,none⟩)) (cs:Array Value) (hl:(loadVar ty ⟨g,off,none⟩).run P w=.ok (.agg cs) w)
 (h:wpListIn F n P ops Q rest (a.put o.dst (.agg cs)) w):wpListIn F n P ops Q (o :: rest) a w:=by
 refine listIn_value hw (by rw [ho];intro c hc;cases hc) (by simp [Oper.about,ho]) (.agg cs) w ?_ h
 unfold execOp;simp only [ho,hx,Instr.loadAt,Instr.sureAddr,Sem.run_bind,Sem.run_pure,Result.andThen_ok,hl]
theorem listIn_append (hgd:o.guard=none) (s x:Operand) (t tn:TypeId) (ho:o.op=.call { callee:=.builtin .append,args:=#[s,x],argTypes:=#[t,tn] })
 (h:∃v' w',(Builtin.append_ #[t,tn] o.type #[a.eval s,a.eval x]).run P w=.ok v' w'∧wpListIn F n P ops Q rest (a.put o.dst v') w'):wpListIn F n P ops Q (o :: rest) a w:=by
 obtain ⟨v',w',hr,h⟩:=h;refine listIn_value (by simp [Region.wanted,hgd]) (by rw [ho];intro c hc;cases hc) (by simp [Oper.about,ho,resolve,Target.leads,Sem.run_pure]) v' w' ?_ h
 unfold execOp;simp only [ho,resolve,invoke,builtin,Sem.run_bind,Sem.run_pure,Result.andThen_ok,List.map_toArray,List.map_cons,List.map_nil,hr]
end
end Go.Proofs.YtahkcemdbfjilaaGreatDoor
namespace Go.Proofs.YtahkcemdbfjilaaGreatDoor
open Go.RowKit Go.Maps
theorem eqS (x p:By):((ba x).toList == (ba p).toList)=decide (x=p):=by
 rw [toList_tl,toList_tl,tl_ba,tl_ba];by_cases h:x=p
 · subst h;simp
 · rw [decide_eq_false h];simpa using h
def FindR (L:Tr) (p:By) (r:Int):Prop:=(r = -1∧look L p=none)∨∃i,i < L.length∧r=(i:Int)∧look L p=some (L.getD i at0).2
theorem look_skip {L:Tr} {p:By} {k:Nat} (h:∀x∈L.take k,x.1≠p):look L p=look (L.drop k) p:=by
 induction L generalizing k with
 | nil=>simp
 | cons x L ih =>
  cases k with
  | zero=>rfl
  | succ k =>
   obtain ⟨q,n⟩:=x;rw [look,if_neg (h (q,n) (by simp)),List.drop_succ_cons]
   exact ih fun y hy=>h y (by simp [hy])
theorem take_next {L:Tr} {p:By} {k:Nat} (hk:k < L.length) (h:∀x∈L.take k,x.1≠p) (hn:(L.getD k at0).1≠p):∀x∈L.take (k+1),x.1≠p:=by
 rw [take_succD hk];intro x hx;rcases List.mem_append.1 hx with e | e
 · exact h x e
 · rw [List.mem_singleton] at e;rw [e];exact hn
set_option maxHeartbeats 4000000 in
theorem rfind_any {w:World} {t:Nat} {L:Tr} {room:Nat} (h:TreeR w t L room) (p:By) (hl:L.length≤100000) :
 Calls Tryz.prog 110 #[.pointer (some ⟨t,0,none⟩),kS p] w fun e w'=>∃r,e=.returned (.int .i64 r)∧FindR L p r∧w=w':=by
 obtain ⟨A,n,c,hv⟩:=h.view;have c0:=hv.c0;have HL:=hid hv.len;have HR:=hid hv.row;have hn:n≤100000:=by rw [←hv.len];exact hl
 clear h hv hl;go_enter Tryz.func110,Tryz.ntmps110
 go_wp2;go_loopw [5] (fun v5 wr=>∃k:Nat,v5=.int .i64 (k:Int)∧k≤n∧Hid (∀x∈L.take k,x.1≠p)∧wr=w) (fun v5 _=>n - (intOf v5).toNat)
 case atStart=>exact ⟨0,rfl,by omega,by intro x hx;simp at hx,rfl⟩
 case round =>
  obtain ⟨k,rfl,hk,J1,rfl⟩:=hrel;by_cases hlt:k < n
  · obtain ⟨g,hA,hat⟩:=HR.out (by omega)
    subst hA;have hkl:k < L.length:=by rw [HL.out];exact hlt
    have ha:=hat k hlt;have d0:=ha.c0;have HN:=hid (fun e=>take_next hkl J1.out e)
    have HF:Hid ((L.getD k at0).1=p→look L p=some (L.getD k at0).2):=fun e=>by
     rw [look_skip J1.out,drop_D hkl];exact if_pos e
    have HK:=hid hkl;obtain ⟨x,hx⟩:∃x,x=L.getD k at0:=⟨_,rfl⟩;rw [←hx] at HN HF d0;have hlt':(k:Int) < (n:Int):=by omega
    have h0:(0:Int)≤(k:Int):=by omega
    have w1:IntKind.i64.wrap ((k:Int)+1)=(k:Int)+1:=i64in _ (by omega) (by omega)
    have HX:=hid hx;by_cases hxp:x.1=p
    · have q:((ba x.1).toList == (ba p).toList)=true:=by rw [eqS,decide_eq_true hxp]
      have HXP:=hid hxp;clear hxp hx ha hkl hat;go_wp2;go_ret;exact ⟨_,rfl,.inr ⟨k,HK.out,rfl,by rw [HF.out HXP.out,HX.out]⟩,rfl⟩
    · have q:((ba x.1).toList == (ba p).toList)=false:=by rw [eqS,decide_eq_false hxp]
      have HXP:=hid hxp;clear hxp hx ha hkl hat;go_wp2;go_roundw
      case rel=>exact ⟨k+1,by go_num,by omega,HN.out HXP.out,trivial⟩
      case measure=>simp [intOf];omega
  · have HE:Hid (look L p=none):=by
     show _=_
     rw [look_skip J1.out,List.drop_of_length_le (by rw [HL.out];omega)];rfl
    go_wp2;go_ret;exact ⟨_,rfl,.inl ⟨rfl,HE.out⟩,rfl⟩
set_option maxHeartbeats 4000000 in
theorem rKind_any {w:World} {t:Nat} {L:Tr} {room:Nat} (h:TreeR w t L room) (p:By) (hl:L.length≤100000) :
 Calls Tryz.prog 112 #[.pointer (some ⟨t,0,none⟩),kS p] w fun e w'=>e=.returned (.int .i64 (kindP L p))∧w=w':=by
 have C1:=hid (rfind_any h p hl);obtain ⟨A,n,c,hv⟩:=h.view;have HV:=hid hv;by_cases hp:p=[]
 · have z1:(ba p).toList=[]:=by rw [toList_tl,tl_ba,hp]
   have HK:Hid (kindP L p=2):=by show _=_;unfold kindP;rw [if_pos hp]
   clear hv h hp hl;go_enter Tryz.func112,Tryz.ntmps112
   go_wp2;go_ret;exact ⟨by rw [HK.out];rfl,rfl⟩
 · have z1:¬(ba p).toList=[]:=by rw [toList_tl,tl_ba];exact hp
   have z2:(ba p).toList.isEmpty=false:=by simpa using z1
   have HK:Hid (kindP L p=match look L p with | some n=>n.kind | none=>0):=by show _=_;unfold kindP;rw [if_neg hp];cases look L p<;>rfl
   clear hv h hp hl;go_enter Tryz.func112,Tryz.ntmps112
   go_wp2_with fail
   refine C1.out.mono ?_;rintro e1 w1 ⟨r,rfl,hf,rfl⟩;rcases hf with ⟨rfl,hl⟩ | ⟨i,hi,rfl,hl⟩
   · have HKK:Hid (kindP L p=0):=by show _=_;rw [HK.out,hl]
     clear hl;go_wp2;go_ret;exact ⟨by rw [HKK.out];rfl,rfl⟩
   · have HKK:Hid (kindP L p=(L.getD i at0).2.kind):=by show _=_;rw [HK.out,hl]
     have hin:i < n:=by rw [←HV.out.len];exact hi
     obtain ⟨g,hA,hat⟩:=HV.out.row (by omega)
     subst hA;have c0:=HV.out.c0;have d1:=(hat i hin).c1;have hlt':(i:Int) < (n:Int):=by omega
     have h0:(0:Int)≤(i:Int):=by omega
     have h1:¬(i:Int) < 0:=by omega
     clear hl hat hi;go_wp2;go_ret;exact ⟨by rw [HKK.out];rfl,rfl⟩
set_option maxHeartbeats 4000000 in
theorem rparent9_any (p:By) (hp:p.length≤4000) (w:World):Calls Tryz.prog 113 #[kS p] w fun e w'=>e=.returned (kS (findV p).1)∧Below w.heap.size w w':=by
 have C1:=hid (Rf.rparent_any (ba p) w (by rw [ba_size];exact hp))
 rw [tl_ba] at C1;clear hp;go_enter Tryz.func113,Tryz.ntmps113
 go_wp2_with fail
 refine C1.out.mono ?_;rintro e1 w1 ⟨rfl,hb⟩;have B1:=hid hb;clear hb;go_wp2;go_ret;exact ⟨rfl,B1.out⟩
theorem home_kind {room:Nat} {L:Tr} (h:WFT room L) (p:By):homeE L p=if kindP L (aheadL p)=0 then 5 else if kindP L (aheadL p)=2 then 0 else 12:=by
 unfold homeE noDirE;by_cases h2:kindP L (aheadL p)=2
 · rw [if_pos h2,h2];rfl
 · rw [if_neg h2,if_neg h2]
   unfold kindP at h2 ⊢;by_cases h0:aheadL p=[]
   · rw [if_pos h0] at h2;exact absurd rfl h2
   · rw [if_neg h0] at h2 ⊢
     cases hl:look L (aheadL p) with
     | none=>rfl
     | some n =>
      have hk:=h.kind _ n hl;rw [hl] at h2;simp only at h2 ⊢;have hk0:n.kind≠0:=by rcases hk with e | e | e<;>rw [e]<;>decide
      rw [if_neg hk0];rfl
set_option maxHeartbeats 4000000 in
theorem rhome_any {w:World} {t:Nat} {L:Tr} {room:Nat} (h:TreeR w t L room) (hW:WFT room L) (p:By) (hm:mayB p=true) (hp:p.length≤4000) (hl:L.length≤100000) :
 Calls Tryz.prog 132 #[.pointer (some ⟨t,0,none⟩),kS p] w fun e w'=>e=.returned (.int .i64 (homeE L p))∧Below w.heap.size w w':=by
 have C1:Hid (Calls Tryz.prog 113 #[kS p] w fun e w'=>e=.returned (kS (aheadL p))∧Below w.heap.size w w'):=by
  have:=rparent9_any p hp w;rw [findV_yes hm] at this;exact this
 have C2:Hid (∀W,Below w.heap.size w W→Calls Tryz.prog 112 #[.pointer (some ⟨t,0,none⟩),kS (aheadL p)] W fun e w'=>e=.returned (.int .i64 (kindP L (aheadL p)))∧W=w'):=fun W hb=>rKind_any (h.on hb) _ hl
 have HH:=hid (home_kind hW p);obtain ⟨k,HK⟩:∃k,Hid (kindP L (aheadL p)=k):=⟨_,rfl⟩;rw [HK.out] at C2 HH;clear h hW hm hp hl;go_enter Tryz.func132,Tryz.ntmps132
 go_wp2_with fail
 refine C1.out.mono ?_;rintro e1 w1 ⟨rfl,hb⟩;have B1:=hid hb;clear hb;go_wp2_with fail
 refine (C2.out _ B1.out).mono ?_;rintro e2 w2 ⟨rfl,rfl⟩;by_cases h0:k=0
 · have q0:(k == 0)=true:=by simpa using h0
   have HE:Hid (homeE L p=5):=by show _=_;rw [HH.out,if_pos h0]
   clear h0;go_wp2;go_ret;exact ⟨by rw [HE.out];rfl,B1.out⟩
 · have q0:(k == 0)=false:=by simpa using h0
   by_cases h2:k=2
   · have q2:(k != 2)=false:=by simp [h2]
     have HE:Hid (homeE L p=0):=by show _=_;rw [HH.out,if_neg h0,if_pos h2]
     clear h0 h2;go_wp2;go_ret;exact ⟨by rw [HE.out];rfl,B1.out⟩
   · have q2:(k != 2)=true:=by simpa using h2
     have HE:Hid (homeE L p=12):=by show _=_;rw [HH.out,if_neg h0,if_neg h2]
     clear h0 h2;go_wp2;go_ret;exact ⟨by rw [HE.out];rfl,B1.out⟩
set_option maxHeartbeats 4000000 in
theorem rUsed_any {w:World} {t:Nat} {L:Tr} {room:Nat} (h:TreeR w t L room) (hu:usedL L≤1000000000) :
 Calls Tryz.prog 18 #[.pointer (some ⟨t,0,none⟩)] w fun e w'=>e=.returned (.int .i64 ((usedL L:Nat):Int))∧w=w':=by
 obtain ⟨A,n,c,hv⟩:=h.view;have c0:=hv.c0;have HL:=hid hv.len;have HR:=hid hv.row;have hn:n≤1000000000:=by
  rw [←hv.len];have h1:=used_len (L:=L);omega
 have HU:=hid hu;clear h hv hu;go_enter Tryz.func18,Tryz.ntmps18
 go_wp2;go_loopw [3,4] (fun v3 v4 wr=>∃k:Nat,v3=.int .i64 ((usedL (L.take k):Nat):Int)∧v4=.int .i64 (k:Int)∧k≤n∧wr=w) (fun _ v4 _=>n - (intOf v4).toNat)
 case atStart=>exact ⟨0,rfl,rfl,by omega,rfl⟩
 case round =>
  obtain ⟨k,rfl,rfl,hk,rfl⟩:=hrel;by_cases hlt:k < n
  · obtain ⟨g,hA,hat⟩:=HR.out (by omega)
    subst hA;have hkl:k < L.length:=by rw [HL.out];exact hlt
    have ha:=hat k hlt;have d2:=ha.c2;have hus:=used_takeD hkl;have hle:usedL (L.take (k+1))≤1000000000:=Nat.le_trans (used_take_le L _) HU.out;obtain ⟨d,hd⟩:∃d,d=(L.getD k at0).2.data:=⟨_,rfl⟩;rw [←hd] at hus d2;obtain ⟨u,HUK⟩:∃u,Hid (usedL (L.take k)=u):=⟨_,rfl⟩;rw [HUK.out] at hus ⊢;have HUS:Hid (usedL (L.take (k+1))=u+(64+d.length)):=hus;have hub:u+64+d.length≤1000000000:=by rw [hus] at hle;omega
    have hlt':(k:Int) < (n:Int):=by omega
    have h0:(0:Int)≤(k:Int):=by omega
    have w1:IntKind.i64.wrap ((k:Int)+1)=(k:Int)+1:=i64in _ (by omega) (by omega)
    have w2:IntKind.i64.wrap ((u:Int)+64)=(u:Int)+64:=i64in _ (by omega) (by omega)
    have w3:IntKind.i64.wrap ((u:Int)+64+(d.length:Int))=(u:Int)+64+(d.length:Int):=i64in _ (by omega) (by omega)
    have zd:(ba d).size=d.length:=ba_size d;clear hus hle hd ha hkl hat;go_wp2;go_roundw
    case rel=>exact ⟨k+1,by rw [HUS.out];go_num,by go_num,by omega,trivial⟩
    case measure=>simp [intOf];omega
  · have HE:Hid (usedL (L.take k)=usedL L):=by show _=_;rw [List.take_of_length_le (by rw [HL.out];omega)]
    rw [HE.out];go_wp2;go_ret;exact ⟨rfl,rfl⟩
end Go.Proofs.YtahkcemdbfjilaaGreatDoor
namespace Go.Proofs.YtahkcemdbfjilaaGreatDoor
open Go.RowKit Go.Maps
structure OutR (w0 wr:World) (o room:Nat) (K:Tr) (v:Value):Prop where
 has:Has wr o 131 #[v,.int .i64 (room:Int)]
 row:TRow (o+1) wr v K
 bl:Below w0.heap.size w0 wr
 io:w0.heap.size≤o
theorem OutR.start (w:World) (room:Nat):OutR w (w.alloc (.cells #[.slice none 0 0,.int .i64 (room:Int)] 131)) w.heap.size room [] (.slice none 0 0) :=
 ⟨Has.fresh _ _ _,TRow.nil _ _,(Below.refl _ _).alloc (Nat.le_refl _) _,Nat.le_refl _⟩
theorem OutR.drew {w0 wr:World} {o room:Nat} {K:Tr} {v:Value} (h:OutR w0 wr o room K v):OutR w0 wr.drew o room K v:=⟨h.has,h.row,h.bl.drew,h.io⟩
theorem OutR.tree {w0 wr:World} {o room:Nat} {K:Tr} {v:Value} (h:OutR w0 wr o room K v):TreeF w0.heap.size wr o K room:=⟨⟨v,h.has,h.row.mono (by have:=h.io;omega)⟩,h.io⟩
theorem OutR.app {w0 wr:World} {o room:Nat} {K:Tr} {v:Value} (h:OutR w0 wr o room K v) (x:At) (hn:K.length≤100000) :
 ∃v' w',(Builtin.append_ #[64,64] 64 #[v,.slice (some ⟨wr.heap.size,0,none⟩) 1 1]).run Tryz.prog (wr.alloc (.cells (atCells x) 73))=.ok v' w'∧OutR w0 (w'.setCell ⟨o,0,none⟩ v') o room (K++[x]) v'∧Has w' o 131 #[v,.int .i64 (room:Int)]∧Below w0.heap.size w0 w'∧∃A c,v'=.slice A (K.length+1) c:=by
 have hb:Below wr.heap.size wr (wr.alloc (.cells (atCells x) 73)):=(Below.refl _ _).alloc (Nat.le_refl _) _;have ho:=h.has.inside;obtain ⟨v',w',k1,k2,k3⟩:=append_at _ (o+1) v K (h.row.on hb) x wr.heap.size (Has.fresh wr 73 _) hn (by have:=hb.size;omega) 64
 have hb2:Below (o+1) wr w':=(hb.mono (by omega)).grown k3 (by have:=hb.size;omega) (fun g hg=>(World.ownsRow.lt h.row g hg).1)
 have hh:Has w' o 131 #[v,.int .i64 (room:Int)]:=h.has.kept hb2 (Nat.lt_succ_self _);have hbl:Below w0.heap.size w0 w':=h.bl.trans (hb2.mono (by have:=h.io;omega))
 obtain ⟨A,c,rfl⟩:=k2.form;refine ⟨_,w',k1,⟨hh.put 0 _,row_of k2 fun g hg=>?_,hbl.setCell h.io _,h.io⟩,hh,hbl,A,c,by rw [List.length_append];rfl⟩
 have:=(World.ownsRow.lt k2 g hg).1;exact Below.heap_setCell w' ⟨o,0,none⟩ _ g (by show g≠o;omega)
def NewT (w:World) (K:Tr) (room:Nat) (e:Ending) (w':World):Prop:=∃o,e=.returned (.pointer (some ⟨o,0,none⟩))∧TreeF w.heap.size w' o K room∧Below w.heap.size w w'
theorem del_cons (x:At) (L:Tr) (p:By):del (x :: L) p=if x.1=p then del L p else x :: del L p:=by
 unfold del;by_cases h:x.1=p
 · simp [h]
 · simp [h]
structure RdT (t:Nat) (A:Option Addr) (n c g k:Nat) (x:At) (W:World):Prop where
 c0:W.cell? ⟨t,0,none⟩=some (.slice A n c)
 at_:AtAt W g (k*5) x
structure RdN (b:Nat) (cs:Array Value) (W:World):Prop where
 h:Has W b 71 cs
theorem RdN.on {b:Nat} {cs:Array Value} {W W':World} (h:RdN b cs W) (hb:Below W.heap.size W W'):RdN b cs W':=⟨h.h.kept hb h.h.inside⟩
theorem RdT.on {t:Nat} {A:Option Addr} {n c g k:Nat} {x:At} {W W':World} (h:RdT t A n c g k x W) (hb:Below W.heap.size W W'):RdT t A n c g k x W' :=
 ⟨(hb.cell (p:=⟨t,0,none⟩) (block_lt_of_cell (a:=⟨t,0,none⟩) h.c0)).trans h.c0,h.at_.on hb⟩
end Go.Proofs.YtahkcemdbfjilaaGreatDoor
