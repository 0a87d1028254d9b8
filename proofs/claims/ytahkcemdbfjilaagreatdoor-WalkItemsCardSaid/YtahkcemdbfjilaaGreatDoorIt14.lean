/- Several texts in one. Conditions: those said at each. -/
import Derived.Test.YtahkcemdbfjilaaGreatDoorIt00
import Derived.Test.YtahkcemdbfjilaaGreatDoorIt12
import Derived.Test.YtahkcemdbfjilaaGreatDoorIt13
import Derived.Laws.Rows
import Derived.Laws.Tables
import Derived.Laws.EntriesVeiled
import Derived.Laws.DeepStrings4
import Derived.RegionTactic
set_option linter.unusedSimpArgs false
set_option linter.unusedVariables false
set_option maxRecDepth 100000
namespace Go.Proofs.YtahkcemdbfjilaaGreatDoor
def inL (L:Tr) (root:By):Tr:=L.filterMap fun x=>if (root++[47]).isPrefixOf x.1 then some (x.1.drop (root.length+1),x.2) else none
theorem pre_form {d q:By}:(d++[47]).isPrefixOf q=true↔q=d++47 :: q.drop (d.length+1):=by
 constructor
 · intro h
   obtain ⟨s,hs⟩:=List.isPrefixOf_iff_prefix.1 h;have e:q=d++47 :: s:=by rw [←hs];simp
   have e2:(d++47 :: s).drop (d.length+1)=s:=by
    rw [show d++47 :: s=(d++[47])++s by simp]
    exact List.drop_left' (by simp)
   rw [e,e2]
 · intro h
   rw [h];exact prefix_join _ _
theorem drop_behind (d s:By):(d++47 :: s).drop (d.length+1)=s:=by
 rw [show d++47 :: s=(d++[47])++s by simp]
 exact List.drop_left' (by simp)
theorem inL_cons (q:By) (n:Nd) (L:Tr) (root:By):inL ((q,n) :: L) root=if (root++[47]).isPrefixOf q then (q.drop (root.length+1),n) :: inL L root else inL L root:=by
 unfold inL;rw [List.filterMap_cons];by_cases h:(root++[47]).isPrefixOf q=true
 · simp only [h,if_true]
 · simp only [h];simp
theorem look_in (L:Tr) (root p:By):look (inL L root) p=look L (root++47 :: p):=by
 induction L with
 | nil=>rfl
 | cons a L ih =>
  obtain ⟨q,n⟩:=a;rw [inL_cons,look];by_cases h:(root++[47]).isPrefixOf q=true
  · have e:=pre_form.1 h
    rw [if_pos h,look,ih];by_cases k:q.drop (root.length+1)=p
    · rw [if_pos k,if_pos (by rw [e,k])]
    · rw [if_neg k,if_neg]
      intro e2;rw [e2,drop_behind] at k;exact k rfl
  · rw [if_neg h,ih,if_neg]
    rintro rfl;exact h (prefix_join _ _)
theorem cmpL_left (d a b:By):cmpL (d++a) (d++b)=cmpL a b:=by
 induction d with
 | nil=>rfl
 | cons c d ih=>rw [List.cons_append,List.cons_append,cmpL,if_pos rfl,ih]
theorem mem_in {L:Tr} {root:By} {x:By × Nd}:x∈inL L root↔(root++47 :: x.1,x.2)∈L:=by
 unfold inL;rw [List.mem_filterMap];constructor
 · rintro ⟨y,hy,h⟩
   split at h
   · rename_i hp
     injection h with h;have e:=pre_form.1 hp;rw [←h];rw [←e];exact hy
   · cases h
 · intro h
   refine ⟨_,h,?_⟩;rw [if_pos (prefix_join _ _)];simp only [drop_behind]
theorem srt_in {L:Tr} (h:Srt L) (root:By):Srt (inL L root):=by
 induction L with
 | nil=>exact List.Pairwise.nil
 | cons a L ih =>
  obtain ⟨q,n⟩:=a;obtain ⟨h1,h2⟩:=List.pairwise_cons.1 h;rw [inL_cons];split
  · rename_i hp
    refine List.pairwise_cons.2 ⟨fun y hy=>?_,ih h2⟩
    have:=h1 _ (mem_in.1 hy);rw [pre_form.1 hp] at this;simp only at this;rw [cmpL_left,cmpL,if_pos rfl] at this;exact this
  · exact ih h2
theorem used_in (L:Tr) (root:By):usedL (inL L root)≤usedL L:=by
 induction L with
 | nil=>exact Nat.le_refl _
 | cons a L ih =>
  obtain ⟨q,n⟩:=a;rw [inL_cons];split
  · rw [usedL,usedL];omega
  · rw [usedL];omega
theorem len_in (L:Tr) (root:By):(inL L root).length≤L.length:=List.length_filterMap_le _ _
theorem pieces_join (d r:By):pieces (d++47 :: r)=pieces d++pieces r:=by
 induction d with
 | nil=>show pieces (47 :: r)=[] :: pieces r;rw [pieces,if_pos rfl]
 | cons c d ih =>
  rw [List.cons_append,pieces,pieces,ih];by_cases hc:c=47
  · rw [if_pos hc,if_pos hc];rfl
  · rw [if_neg hc,if_neg hc]
    cases h:pieces d with
    | nil=>exact absurd h (pieces_ne d)
    | cons x xs=>rfl
theorem pieces_lone (r:By) (h:47∉r):pieces r=[r]:=by
 induction r with
 | nil=>rfl
 | cons c r ih =>
  rw [pieces,if_neg (by rintro rfl;exact h List.mem_cons_self),ih (fun k=>h (List.mem_cons_of_mem _ k))]
theorem may_tail {d r:By} (h:mayB (d++47 :: r)=true):mayB r=true:=by
 obtain ⟨h1,h2,h3,h4⟩:=may_parts h;rw [List.length_append,List.length_cons] at h1;rw [pieces_join,List.length_append] at h2;rw [pieces_join,List.all_append] at h3;simp only [Bool.and_eq_true] at h3;refine may_of (by omega) (by omega) h3.2 ?_
 rw [ahead_behind] at h4;split at h4
 · rw [List.length_append,List.length_cons] at h4;omega
 · rename_i hm
   rw [aheadL_one (pieces_lone r hm)];exact Nat.zero_le _
theorem may_front {d r:By} (h:mayB (d++47 :: r)=true):mayB d=true:=by
 obtain ⟨h1,h2,h3,h4⟩:=may_parts h;rw [List.length_append,List.length_cons] at h1;rw [pieces_join,List.length_append] at h2;rw [pieces_join,List.all_append] at h3;simp only [Bool.and_eq_true] at h3;refine may_of (by omega) (by omega) h3.1 ?_
 have:=aheadL_len d;rw [ahead_behind] at h4;split at h4
 · rw [List.length_append,List.length_cons] at h4;omega
 · omega
theorem in_wft {room:Nat} {L:Tr} (h:WFT room L) (root:By):WFT room (inL L root) where
 srt:=srt_in h.srt root
 may p hp:=by rw [look_in] at hp;exact may_tail (h.may _ hp)
 kind p n hp:=by rw [look_in] at hp;exact h.kind _ n hp
 par p hp:=by
  rw [look_in] at hp;have k:=h.par _ hp;rw [ahead_behind] at k;unfold kindP;by_cases hm:47∈p
  · rw [if_pos hm] at k
    unfold kindP at k;rw [if_neg (by simp)] at k
    rw [look_in];split
    · rfl
    · exact k
  · rw [aheadL_one (pieces_lone p hm),if_pos rfl]
 used:=Nat.le_trans (used_in L root) h.used
theorem in_none {room:Nat} {L:Tr} (h:WFT room L) (root:By) (hk:kindP L root≠2):inL L root=[]:=by
 rcases hl:inL L root with _ | ⟨x,l⟩
 · rfl
 · have hx:x∈inL L root:=by rw [hl];exact List.mem_cons_self
   have:=mem_look h.srt (mem_in.1 hx);exact absurd (h.anc root _ x.1 (Nat.le_refl _) (by rw [this];rfl)) hk
def DG (L:Tr):Prop:=∀p n,look L p=some n→n.kind≠1→n.data=[]
theorem DG.nil:DG []:=fun p n h=>by cases h
theorem DG.ins {L:Tr} (h:DG L) (p:By) {n:Nd} (hn:n.kind≠1→n.data=[]):DG (ins p n L):=by
 intro q m hq hk;rw [look_ins] at hq;split at hq
 · injection hq with hq;subst hq;exact hn hk
 · exact h q m hq hk
theorem DG.put {L:Tr} (h:DG L) (room:Nat) (p:By) {n:Nd} (hn:n.kind≠1→n.data=[]):DG (putE room L p n).2:=by
 unfold putE;split
 · exact h.ins p hn
 · exact h
theorem DG.add {L:Tr} (h:DG L) (room:Nat) (p:By) {n:Nd} (hn:n.kind≠1→n.data=[]):DG (addE room L p n).2:=by
 unfold addE;split
 · split
   · exact h
   · exact h.put room p hn
 · exact h
structure Fnd where
 items:Tr
 temps:List By
 ign:List By
 bad:List By
def badN (n:Nd):Bool:=decide (4096 < n.data.length)
def skipB (over p:By):Bool:=!decide (over=[])&&withinB p over
def stepW (ig:By→Bool) (s:Fnd × By) (x:By × Nd):Fnd × By :=
 if skipB s.2 x.1 then s
 else if isTempB x.1 then (⟨s.1.items,s.1.temps++[x.1],s.1.ign,s.1.bad⟩,x.1)
 else if ig x.1 then (⟨s.1.items,s.1.temps,s.1.ign++[x.1],s.1.bad⟩,x.1)
 else if badN x.2 then (⟨s.1.items,s.1.temps,s.1.ign,s.1.bad++[x.1]⟩,s.2)
 else (⟨s.1.items++[x],s.1.temps,s.1.ign,s.1.bad⟩,s.2)
def walkS (ig:By→Bool) (l:Tr):Fnd × By:=l.foldl (stepW ig) (⟨[],[],[],[]⟩,[])
def walkF (ig:By→Bool) (l:Tr):Fnd:=(walkS ig l).1
theorem walkS_snoc (ig:By→Bool) (l:Tr) (x:By × Nd):walkS ig (l++[x])=stepW ig (walkS ig l) x:=by
 unfold walkS;rw [List.foldl_append];rfl
section
variable {room:Nat} {l:Tr} (hW:WFT room l) (hD:DG l) (ig:By→Bool)
include hW
theorem mem_may {x:By × Nd} (hx:x∈l):mayB x.1=true:=hW.may _ (by rw [mem_look hW.srt hx];rfl)
include hD
end
end Go.Proofs.YtahkcemdbfjilaaGreatDoor
namespace Go.Proofs.YtahkcemdbfjilaaGreatDoor
open Go.RowKit Go.Maps
theorem since_do (M:Mo) (y:Eff):(doM M y).2.since.length≤M.since.length+1:=by
 unfold doM;split
 · exact Nat.le_succ _
 · split
   · simp
   · exact Nat.le_succ _
end Go.Proofs.YtahkcemdbfjilaaGreatDoor
namespace Go.Proofs.YtahkcemdbfjilaaGreatDoor
open Go.RowKit Go.Maps
theorem step_append_run {P:Program} {ops:Array Oper} {o:Oper} {a:Act} {w:World} {K:Act→World→Prop} {Q:Exit→Act→World→Prop} {E:Prop}
 (hw:Region.wanted o (yielded ops a.tmps)=true) (s x:Operand) (t tn:TypeId) (ho:o.op=.call { callee:=.builtin .append,args:=#[s,x],argTypes:=#[t,tn] })
 (vs vx:Value) (hs:a.eval s=vs) (hx:a.eval x=vx) {v':Value} {w':World} (hr:(Builtin.append_ #[t,tn] o.type #[vs,vx]).run P w=.ok v' w') (h:K (a.put o.dst v') w') :
 if Region.wanted o (yielded ops a.tmps)=true then Oper.wp P o a w K Q else E:=by
 rw [if_pos hw];unfold Oper.wp execOp;simp only [ho,hs,hx,resolve,invoke,builtin,Sem.run_bind,Sem.run_pure,Result.andThen_ok,List.map_toArray,List.map_cons,List.map_nil,hr];exact h
theorem rem_nat (a b:Nat):(a:Int).tmod (b:Int)=((a % b:Nat):Int):=by
 rw [Int.tmod_eq_emod_of_nonneg (by omega)];rfl
theorem yields_loadA {ops:Array Oper} {S:World→Prop} {o:Oper} {a:Act} (hw:Region.wanted o (yielded ops a.tmps)=true) (ty:TypeId) (x:Operand) (ho:o.op=.load ty x) (g off:Nat) (hx:a.eval x=.pointer (some ⟨g,off,none⟩)) (cs:Array Value)
 (hS:∀w,S w→(loadVar ty ⟨g,off,none⟩).run Tryz.prog w=.ok (.agg cs) w):YieldsIf Tryz.prog ops S o (.agg cs) a :=
 .inl ⟨hw,fun w hw'=>by
  unfold execOp;simp only [ho,hx,Instr.loadAt,Instr.sureAddr,Sem.run_bind,Sem.run_pure,Result.andThen_ok,hS w hw']⟩
theorem used_take {L:Tr} {k:Nat} (hk:k < L.length):usedL (L.take (k+1))=usedL (L.take k)+useN L[k].2:=by
 induction L generalizing k with
 | nil=>simp at hk
 | cons x L ih =>
  obtain ⟨p,n⟩:=x
  cases k with
  | zero=>simp [usedL]
  | succ k =>
   have:=ih (k:=k) (by simpa using hk)
   simp only [List.take_succ_cons,usedL,List.getElem_cons_succ,this];omega
theorem used_take_le (L:Tr) (k:Nat):usedL (L.take k)≤usedL L:=by
 induction L generalizing k with
 | nil=>simp [usedL]
 | cons x L ih =>
  obtain ⟨p,n⟩:=x
  cases k with
  | zero=>simp [usedL]
  | succ k=>have:=ih k;simp only [List.take_succ_cons,usedL];omega
end Go.Proofs.YtahkcemdbfjilaaGreatDoor
namespace Go.RowKit
theorem Below.drewG {B:Nat} {a w:World} (h:Below B a w) (n:Nat):Below B a (w.drewN n):=⟨h.os,h.tape,h.output,h.size,h.block⟩
theorem Below.rowG {B:Nat} {a w:World} (h:Below B a w) {g:Nat} (hg:B≤g) (cs:Array Value):Below B a (w.setRow g cs) :=
 h.trans ⟨rfl,rfl,rfl,by simp,fun k hk=>setRow_other w g k cs (by omega)⟩
theorem Below.thenG {a w w':World} (h:Below a.heap.size a w) (h2:Below w.heap.size w w'):Below a.heap.size a w':=h.trans (h2.mono h.size)
end Go.RowKit
namespace Go.Proofs.YtahkcemdbfjilaaGreatDoor.Glob
open Go.RowKit
theorem hid {p:Prop} (h:p):Hid p:=h
abbrev By:=List UInt8
def b8 (x:UInt8):Int:=(x.toNat:Int)
theorem b8_inj {x y:UInt8} (h:b8 x=b8 y):x=y:=UInt8.toNat_inj.1 (by unfold b8 at h;omega)
theorem b8_eq (x y:UInt8):(b8 x == b8 y)=(x == y):=by
 rw [Bool.eq_iff_iff];simp only [beq_iff_eq];exact ⟨b8_inj,fun h=>by rw [h]⟩
abbrev tl (s:ByteArray):By:=s.data.toList
def ba (l:By):ByteArray:=⟨l.toArray⟩
theorem tl_ba (l:By):tl (ba l)=l:=rfl
theorem tl_length (s:ByteArray):(tl s).length=s.size:=by simp [tl]
theorem ba_size (l:By):(ba l).size=l.length:=by rw [←tl_length];rfl
theorem ba_inj {a b:By} (h:ba a=ba b):a=b:=by have:=congrArg tl h;simpa [tl_ba] using this
theorem ba_take (s:By) (k:Nat):(ba s).extract 0 k=ba (s.take k):=by
 apply ByteArray.ext;apply Array.ext';simp [ba]
theorem ba_drop (s:By) (k:Nat):(ba s).extract k s.length=ba (s.drop k):=by
 apply ByteArray.ext;apply Array.ext';simp [ba];rw [List.take_of_length_le];simp
def at8 (l:By) (i:Nat):UInt8:=l.getD i 0
theorem index_str (s:By) (i:Nat) (h:i < s.length) (w:World):(Instr.index 9 (.string (ba s)) (.int .i64 (i:Int))).run Tryz.prog w=.ok (.int .u8 (b8 (at8 s i))) w:=by
 have hsz:=ba_size s;rw [run_index_string (P:=Tryz.prog) w 9 (ba s) .i64 (i:Int) Tryz.underlying9,dif_pos ⟨by omega,by omega⟩]
 have:(ba s)[(i:Int).toNat]'(by rw [hsz];simpa using h)=at8 s i:=by
  have h2:i < s.length:=by simpa using h
  show (ba s)[i]=_
  simp only [at8,List.getD,List.getElem?_eq_getElem h2,Option.getD_some];rfl
 rw [this];rfl
def Has (w:World) (g:Nat) (t:TypeId) (cs:Array Value):Prop:=w.heap[g]? = some (.cells cs t (0,0))
section
variable {w w':World} {g:Nat} {t:TypeId} {cs:Array Value}
theorem Has.inside (h:Has w g t cs):g < w.heap.size:=by
 unfold Has at h;exact (Array.getElem?_eq_some_iff.1 h).1
theorem Has.at_ (h:Has w g t cs) (i:Nat):w.cell? ⟨g,i,none⟩=cs[i]?:=cell_of_row w g i cs t (0,0) h
theorem Has.free (h:Has w g t cs) (i:Nat):w.frozen? ⟨g,i,none⟩=false:=by
 unfold Has at h;simp [World.frozen?,h]
theorem Has.fresh (w:World) (t:TypeId) (cs:Array Value):Has (w.alloc (.cells cs t)) w.heap.size t cs:=heap_alloc_new w _
theorem Has.fresh' (w:World) (t:TypeId) (cs:Array Value) {g:Nat} (hg:g=w.heap.size):Has (w.alloc (.cells cs t)) g t cs:=by subst hg;exact Has.fresh w t cs
theorem Has.drawn (h:Has w g t cs) (n:Nat):Has (w.drewN n) g t cs:=h
theorem Has.more (h:Has w g t cs) (o:Obj):Has (w.alloc o) g t cs:=(Below.heap_alloc w o g h.inside).trans h
theorem Has.put (h:Has w g t cs) (i:Nat) (v:Value):Has (w.setCell ⟨g,i,none⟩ v) g t (cs.setIfInBounds i v):=by
 unfold Has at h ⊢;simp [World.setCell,Array.getElem?_modify,h]
theorem Has.other (h:Has w g t cs) {p:Addr} (hp:g≠p.block) (v:Value):Has (w.setCell p v) g t cs:=(Below.heap_setCell w p v g hp).trans h
theorem Has.kept {B:Nat} (h:Has w g t cs) (hb:Below B w w') (hg:g < B):Has w' g t cs:=(hb.block g hg).trans h
theorem Has.stays (h:Has w g t cs) (hb:Below w.heap.size w w'):Has w' g t cs:=h.kept hb h.inside
theorem Has.row {cs':Array Value} (h:Has w g t cs):Has (w.setRow g cs') g t cs':=setRow_heap w g cs cs' t (0,0) h
theorem Has.rowOther {g':Nat} {cs':Array Value} (h:Has w g t cs) (hg:g≠g'):Has (w.setRow g' cs') g t cs:=(setRow_other w g' g cs' hg).trans h
end
theorem ret_bool {a b:Bool} (h:a=b):Ending.returned (.bool a)=.returned (.bool b):=by rw [h]
end Go.Proofs.YtahkcemdbfjilaaGreatDoor.Glob
namespace Go.Proofs.YtahkcemdbfjilaaGreatDoor
open Go.RowKit Go.Maps
theorem iRec:(Tryz.prog.info? 58).map (·.size)=some 27:=by kernel_rfl
def recC (p:By) (k:Int) (sz tm:Int) (bs:Int) (bv:Value) (tg:By):Array Value:=#[kS p,.int .i64 k,.bool false,.int .i64 sz,.int .i64 tm,.int .i64 0,.int .u32 0,.int .u32 0,.int .u32 0,.int .u32 0,.int .u32 0,.int .u32 0,.int .u32 0,.int .u32 0,.int .u32 0,.int .u32 0,.int .u32 0,.int .u32 0,.int .u32 0,.int .u32 0,.int .u32 0,.int .u32 0,.int .i64 bs,bv,kS tg,.int .i64 0,.int .i64 0]
theorem load_rec {w:World} {g:Nat} {cs:Array Value} (hg:Has w g 58 cs) (hs:cs.size=27):(loadVar 58 ⟨g,0,none⟩).run Tryz.prog w=.ok (.agg cs) w :=
 run_loadVar_row (P:=Tryz.prog) w g 58 58 _ (0,0) _ hg Tryz.underlying58 rfl (by rw [hs];exact iRec)
theorem sizeI_small (n:Int):sizeI n≤1000000:=by
 unfold sizeI;split
 · omega
 · rename_i h
   have:=szL_cases n.toNat;omega
def sizN (n:Nd):Int:=if n.kind=1 then (n.data.length:Int) else 0
def bsN (n:Nd):Int:=if n.kind=1 then (sizeI (n.data.length:Int):Int) else 0
def hasN (n:Nd):List (List UInt8):=if n.kind=1 then hashes n.data else []
def recN (p:By) (n:Nd) (bv:Value):Array Value:=recC p n.kind (sizN n) n.time (bsN n) bv n.target
set_option maxHeartbeats 8000000 in
theorem itemOf_any (p:By) (n:Nd) (w:World) (hT:Sha.Tab w) (hd:n.kind=1→n.data.length≤4096) :
 Calls Tryz.prog 54 #[kS p,nodeV n] w fun e w'=>∃bv,e=.returned (.agg (recN p n bv))∧Dgs w.heap.size w' bv (hasN n)∧Below w.heap.size w w':=by
 obtain ⟨k,d,x,t⟩:=n;show Calls Tryz.prog 54 #[kS p,.agg #[.int .i64 k,kS d,kS x,.int .i64 t]] w _
 obtain ⟨w1,hw1⟩:∃w1,w.alloc (.cells #[.int .i64 k,kS d,kS x,.int .i64 t] 71)=w1:=⟨_,rfl⟩;have b1:Below w.heap.size w w1:=hw1▸(Below.refl _ _).alloc (Nat.le_refl _) _;have s1:w1.heap.size=w.heap.size+1:=by rw [←hw1];simp
 have X1:Has w1 w.heap.size 71 #[.int .i64 k,kS d,kS x,.int .i64 t]:=by rw [←hw1];exact Has.fresh _ _ _
 obtain ⟨w2,hw2⟩:∃w2,w1.alloc (.cells #[.string ⟨#[]⟩,.int .i64 0,.bool false,.int .i64 0,.int .i64 0,.int .i64 0,.int .u32 0,.int .u32 0,.int .u32 0,.int .u32 0,.int .u32 0,.int .u32 0,.int .u32 0,.int .u32 0,.int .u32 0,.int .u32 0,.int .u32 0,.int .u32 0,.int .u32 0,.int .u32 0,.int .u32 0,.int .u32 0,.int .i64 0,.slice none 0 0,.string ⟨#[]⟩,.int .i64 0,.int .i64 0] 58)=w2:=⟨_,rfl⟩;have b2:Below w.heap.size w w2:=hw2▸b1.alloc b1.size _;have s2:w2.heap.size=w.heap.size+2:=by rw [←hw2];simp [s1]
 have Y2:Has w2 (w.heap.size+1) 58 #[.string ⟨#[]⟩,.int .i64 0,.bool false,.int .i64 0,.int .i64 0,.int .i64 0,.int .u32 0,.int .u32 0,.int .u32 0,.int .u32 0,.int .u32 0,.int .u32 0,.int .u32 0,.int .u32 0,.int .u32 0,.int .u32 0,.int .u32 0,.int .u32 0,.int .u32 0,.int .u32 0,.int .u32 0,.int .u32 0,.int .i64 0,.slice none 0 0,.string ⟨#[]⟩,.int .i64 0,.int .i64 0]:=by rw [←hw2,←s1];exact Has.fresh _ _ _
 have X2:Has w2 w.heap.size 71 #[.int .i64 k,kS d,kS x,.int .i64 t]:=by rw [←hw2];exact X1.more _
 obtain ⟨w3,hw3⟩:∃w3,w2.alloc (.cells #[.string ⟨#[]⟩,.int .i64 0,.bool false,.int .i64 0,.int .i64 0,.int .i64 0,.int .u32 0,.int .u32 0,.int .u32 0,.int .u32 0,.int .u32 0,.int .u32 0,.int .u32 0,.int .u32 0,.int .u32 0,.int .u32 0,.int .u32 0,.int .u32 0,.int .u32 0,.int .u32 0,.int .u32 0,.int .u32 0,.int .i64 0,.slice none 0 0,.string ⟨#[]⟩,.int .i64 0,.int .i64 0] 58)=w3:=⟨_,rfl⟩;have b3:Below w.heap.size w w3:=hw3▸b2.alloc b2.size _;have s3:w3.heap.size=w.heap.size+3:=by rw [←hw3];simp [s2]
 have Z3:Hid (Has w3 (w.heap.size+2) 58 #[.string ⟨#[]⟩,.int .i64 0,.bool false,.int .i64 0,.int .i64 0,.int .i64 0,.int .u32 0,.int .u32 0,.int .u32 0,.int .u32 0,.int .u32 0,.int .u32 0,.int .u32 0,.int .u32 0,.int .u32 0,.int .u32 0,.int .u32 0,.int .u32 0,.int .u32 0,.int .u32 0,.int .u32 0,.int .u32 0,.int .i64 0,.slice none 0 0,.string ⟨#[]⟩,.int .i64 0,.int .i64 0]):=by rw [←hw3,←s2];exact Has.fresh _ _ _
 have Y3:Has w3 (w.heap.size+1) 58 #[.string ⟨#[]⟩,.int .i64 0,.bool false,.int .i64 0,.int .i64 0,.int .i64 0,.int .u32 0,.int .u32 0,.int .u32 0,.int .u32 0,.int .u32 0,.int .u32 0,.int .u32 0,.int .u32 0,.int .u32 0,.int .u32 0,.int .u32 0,.int .u32 0,.int .u32 0,.int .u32 0,.int .u32 0,.int .u32 0,.int .i64 0,.slice none 0 0,.string ⟨#[]⟩,.int .i64 0,.int .i64 0]:=by rw [←hw3];exact Y2.more _
 have X3:Has w3 w.heap.size 71 #[.int .i64 k,kS d,kS x,.int .i64 t]:=by rw [←hw3];exact X2.more _
 obtain ⟨w4,hw4⟩:∃w4,w3.setRow (w.heap.size+2) (recC p k 0 t 0 (.slice none 0 0) x)=w4:=⟨_,rfl⟩;have b4:Hid (Below w.heap.size w w4):=by rw [←hw4];exact b3.rowK (by omega) _
 have Z4:Hid (Has w4 (w.heap.size+2) 58 (recC p k 0 t 0 (.slice none 0 0) x)):=by rw [←hw4];exact Z3.out.row
 have Y4:Hid (Has w4 (w.heap.size+1) 58 #[.string ⟨#[]⟩,.int .i64 0,.bool false,.int .i64 0,.int .i64 0,.int .i64 0,.int .u32 0,.int .u32 0,.int .u32 0,.int .u32 0,.int .u32 0,.int .u32 0,.int .u32 0,.int .u32 0,.int .u32 0,.int .u32 0,.int .u32 0,.int .u32 0,.int .u32 0,.int .u32 0,.int .u32 0,.int .u32 0,.int .i64 0,.slice none 0 0,.string ⟨#[]⟩,.int .i64 0,.int .i64 0]):=by rw [←hw4];exact Y3.rowOther (by omega)
 have X4:Hid (Has w4 w.heap.size 71 #[.int .i64 k,kS d,kS x,.int .i64 t]):=by rw [←hw4];exact X3.rowOther (by omega)
 have HS1:=hid s1;have HS2:=hid s2;have n0:=X2.at_ 0;have n2:=X2.at_ 2;have n3:=X2.at_ 3;have m0:=X4.out.at_ 0;have m1:=X4.out.at_ 1;clear b1 b2 b3 X1 X2 X3 Y2 Y3 s3;by_cases h1:k=1
 · subst h1
   have hle:d.length≤4096:=hd rfl;have q:((1:Int) == 1)=true:=rfl;obtain ⟨w5,hw5⟩:∃w5,w4.drew=w5:=⟨_,rfl⟩;have b5:Hid (Below w.heap.size w w5):=by rw [←hw5];exact b4.out.drew
   have X5:Hid (Has w5 w.heap.size 71 #[.int .i64 1,kS d,kS x,.int .i64 t]):=by rw [←hw5];exact X4.out
   have Y5:Hid (Has w5 (w.heap.size+1) 58 #[.string ⟨#[]⟩,.int .i64 0,.bool false,.int .i64 0,.int .i64 0,.int .i64 0,.int .u32 0,.int .u32 0,.int .u32 0,.int .u32 0,.int .u32 0,.int .u32 0,.int .u32 0,.int .u32 0,.int .u32 0,.int .u32 0,.int .u32 0,.int .u32 0,.int .u32 0,.int .u32 0,.int .u32 0,.int .u32 0,.int .i64 0,.slice none 0 0,.string ⟨#[]⟩,.int .i64 0,.int .i64 0]):=by rw [←hw5];exact Y4.out
   have Z5:Hid (Has w5 (w.heap.size+2) 58 (recC p 1 0 t 0 (.slice none 0 0) x)):=by rw [←hw5];exact Z4.out
   have CS:Hid (∀W,Calls Tryz.prog 101 #[.int .i64 (((ba d).size:Nat):Int)] W fun e w'=>e=.returned (.int .i64 (sizeI (((ba d).size:Nat):Int):Int))∧W=w'):=fun W=>size_any _ W
   have hbs:(sizeI (((ba d).size:Nat):Int):Int) < 9223372036854775808:=by
    have:=sizeI_small (((ba d).size:Nat):Int);omega
   have hsz:(((ba d).size:Nat):Int) < 9223372036854775808:=by rw [ba_size];omega
   obtain ⟨bs,HBS⟩:∃bs:Nat,Hid (sizeI (((ba d).size:Nat):Int)=bs):=⟨_,rfl⟩;rw [HBS.out] at CS hbs;obtain ⟨sz,HSZ⟩:∃sz:Nat,Hid ((ba d).size=sz):=⟨_,rfl⟩;obtain ⟨w6,hw6⟩:∃w6,w5.setCell ⟨w.heap.size+2,3,none⟩ (.int .i64 (((ba d).size:Nat):Int))=w6:=⟨_,rfl⟩;have b6:Hid (Below w.heap.size w w6):=by rw [←hw6];exact b5.out.setCell (p:=⟨w.heap.size+2,3,none⟩) (by show _≤w.heap.size+2;omega) _
   have X6:Hid (Has w6 w.heap.size 71 #[.int .i64 1,kS d,kS x,.int .i64 t]):=by rw [←hw6];exact X5.out.other (by show _≠w.heap.size+2;omega) _
   have Y6:Hid (Has w6 (w.heap.size+1) 58 #[.string ⟨#[]⟩,.int .i64 0,.bool false,.int .i64 0,.int .i64 0,.int .i64 0,.int .u32 0,.int .u32 0,.int .u32 0,.int .u32 0,.int .u32 0,.int .u32 0,.int .u32 0,.int .u32 0,.int .u32 0,.int .u32 0,.int .u32 0,.int .u32 0,.int .u32 0,.int .u32 0,.int .u32 0,.int .u32 0,.int .i64 0,.slice none 0 0,.string ⟨#[]⟩,.int .i64 0,.int .i64 0]):=by rw [←hw6];exact Y5.out.other (by show _≠w.heap.size+2;omega) _
   have Z6:Hid (Has w6 (w.heap.size+2) 58 (recC p 1 (((ba d).size:Nat):Int) t 0 (.slice none 0 0) x)):=by rw [←hw6];exact Z5.out.put 3 _
   obtain ⟨w7,hw7⟩:∃w7,w6.setCell ⟨w.heap.size+2,22,none⟩ (.int .i64 (bs:Int))=w7:=⟨_,rfl⟩;have b7:Hid (Below w.heap.size w w7):=by rw [←hw7];exact b6.out.setCell (p:=⟨w.heap.size+2,22,none⟩) (by show _≤w.heap.size+2;omega) _
   have X7:Hid (Has w7 w.heap.size 71 #[.int .i64 1,kS d,kS x,.int .i64 t]):=by rw [←hw7];exact X6.out.other (by show _≠w.heap.size+2;omega) _
   have Y7:Hid (Has w7 (w.heap.size+1) 58 #[.string ⟨#[]⟩,.int .i64 0,.bool false,.int .i64 0,.int .i64 0,.int .i64 0,.int .u32 0,.int .u32 0,.int .u32 0,.int .u32 0,.int .u32 0,.int .u32 0,.int .u32 0,.int .u32 0,.int .u32 0,.int .u32 0,.int .u32 0,.int .u32 0,.int .u32 0,.int .u32 0,.int .u32 0,.int .u32 0,.int .i64 0,.slice none 0 0,.string ⟨#[]⟩,.int .i64 0,.int .i64 0]):=by rw [←hw7];exact Y6.out.other (by show _≠w.heap.size+2;omega) _
   have Z7:Hid (Has w7 (w.heap.size+2) 58 (recC p 1 (((ba d).size:Nat):Int) t (bs:Int) (.slice none 0 0) x)):=by rw [←hw7];exact Z6.out.put 22 _
   have p1:w7.cell? ⟨w.heap.size,1,none⟩=some (kS d):=X7.out.at_ 1;have hcv:=conv_string (ba d) w7;obtain ⟨cp,hcp⟩:∃cp,grownCap w7 (ba d).size 0 5=cp:=⟨_,rfl⟩;obtain ⟨w8,hw8⟩:∃w8,Lib.bytesWorld w7 5 (ba d)=w8:=⟨_,rfl⟩;have HBY:=conv_bytes (ba d) w7;have b78:Below w7.heap.size w7 w8:=hw8▸conv_below (ba d) w7;rw [hcp,hw8] at HBY hcv;have HBY2:Hid (Bytes w8 (.slice (some ⟨w7.heap.size,0,none⟩) (ba d).size cp) d (some ⟨w7.heap.size,0,none⟩) cp w7.heap.size 0):=HBY;have HT8:Hid (Sha.Tab w8):=(hT.kept b7.out hT.pos).kept b78 (Nat.lt_of_lt_of_le hT.pos b7.out.size);have b8:Hid (Below w.heap.size w w8):=b7.out.trans (b78.mono b7.out.size);have CL:=hid (list_any _ d _ cp w7.heap.size 0 w8 HT8.out HBY2.out hle);have Z8:Hid (Has w8 (w.heap.size+2) 58 (recC p 1 (((ba d).size:Nat):Int) t (bs:Int) (.slice none 0 0) x)):=Z7.out.kept b78 Z7.out.inside;have Y8:Hid (Has w8 (w.heap.size+1) 58 #[.string ⟨#[]⟩,.int .i64 0,.bool false,.int .i64 0,.int .i64 0,.int .i64 0,.int .u32 0,.int .u32 0,.int .u32 0,.int .u32 0,.int .u32 0,.int .u32 0,.int .u32 0,.int .u32 0,.int .u32 0,.int .u32 0,.int .u32 0,.int .u32 0,.int .u32 0,.int .u32 0,.int .u32 0,.int .u32 0,.int .i64 0,.slice none 0 0,.string ⟨#[]⟩,.int .i64 0,.int .i64 0]):=Y7.out.kept b78 Y7.out.inside;have HRN:Hid (∀v,recN p ⟨1,d,x,t⟩ v=recC p 1 (((ba d).size:Nat):Int) t (bs:Int) v x):=by
    intro v;show recC p 1 (sizN _) t (bsN _) v x=_
    have e1:sizN ⟨1,d,x,t⟩=(((ba d).size:Nat):Int):=by unfold sizN;rw [if_pos rfl,ba_size]
    have e2:bsN ⟨1,d,x,t⟩=(bs:Int):=by unfold bsN;rw [if_pos rfl,←HBS.out,ba_size]
    rw [e1,e2]
   have HHN:Hid (hasN ⟨1,d,x,t⟩=hashes d):=by show _=_;unfold hasN;rw [if_pos rfl]
   clear hw8 hcp HBY b78 hd hT hle;go_enter Tryz.func54,Tryz.ntmps54
   go_wp2_with (first
    | (refine wpList_store_row rfl 58 (.tmp 5) (.tmp 13) rfl (w.heap.size+2) (recC p 1 0 t 0 (.slice none 0 0) x) rfl rfl 58 _ Z3.out (by kernel_rfl) rfl (by simp [recC,Value.oneCell']) ?_;rw [hw4]))
   refine wp_region_noPanic ?_;refine wp_region_held_drew (S:=fun W=>Has W w.heap.size 71 #[.int .i64 1,kS d,kS x,.int .i64 t]) (by kernel_rfl) (by rw [hw5];exact X5.out) (fun hS=>?_)
   clear hS;rw [hw5];refine inI 0 ?_
   iterate 6
    refine stI (v:=?_) (by simp only [lkA,lkB,lkC];rfl) (by kernel_rfl) (fun _ _ _ h=>h) (by rfl) (by assumption) ?_ ?_
    rotate_left 1
    · intro w hSw
      have c1:=hSw.at_ 1;go_simp
      with_reducible rfl
    simp only [Act.put,siA,siB,siC,Nat.reduceAdd]
   refine outI ?_;refine tkH 7 (v:=?_) (by simp only [lkA,lkB,lkC];rfl) (by kernel_rfl) (fun _ _ _ h=>h) (by rfl) (by assumption) ?_ ?_
   rotate_left 1
   · intro w hSw
     go_simp
     with_reducible rfl
   simp only [Act.put,siA,siB,siC];refine wpAnyH_ready (rs:=[6]) (by kernel_rfl) (by simp) ?_
   refine AllReadyH.cons (by simp only [lkA,lkB,lkC];rfl) (fun K hK=>?_) (AllReadyH.nil)
   go_simp;refine (CS.out _).mono ?_;rintro e1 wq ⟨rfl,rfl⟩;have hz1:=X5.out;refine hK.out _ _ hz1 (fun hS=>?_)
   clear hK K hS;refine wpAnyH_ready (rs:=[8]) (by kernel_rfl) (by simp) ?_
   refine AllReadyH.cons (by simp only [lkA,lkB,lkC];rfl) (fun K hK=>?_) (AllReadyH.nil)
   have hc:w5.cell? ⟨w.heap.size+2,3,none⟩=some (.int .i64 0):=Z5.out.at_ 3;have hf:=Z5.out.free 3;go_simp;try rw [hw6]
   refine hK.out _ _ X6.out (fun hS=>?_)
   clear hK K hS hc hf;refine tkH 9 (v:=?_) (by simp only [lkA,lkB,lkC];rfl) (by kernel_rfl) (fun _ _ _ h=>h) (by rfl) (by assumption) ?_ ?_
   rotate_left 1
   · intro w hSw
     go_simp
     with_reducible rfl
   simp only [Act.put,siA,siB,siC];refine wpAnyH_ready (rs:=[10]) (by kernel_rfl) (by simp) ?_
   refine AllReadyH.cons (by simp only [lkA,lkB,lkC];rfl) (fun K hK=>?_) (AllReadyH.nil)
   have hc:w6.cell? ⟨w.heap.size+2,22,none⟩=some (.int .i64 0):=Z6.out.at_ 22;have hf:=Z6.out.free 22;go_simp;try rw [hw7]
   refine hK.out _ _ X7.out (fun hS=>?_)
   clear hK K hS hc hf;refine wpAnyH_done (by kernel_rfl) ?_ _
   refine NoPanic.normal ?_;go_wp2_with fail
   refine CL.out.mono ?_;rintro e9 w9 ⟨bv,rfl,hD,hb9⟩;obtain ⟨A9,c9,rfl⟩:=hD.form;have D9:=hid hD;have b9:Hid (Below w.heap.size w w9):=b8.out.trans (hb9.mono b8.out.size);have Z9:Hid (Has w9 (w.heap.size+2) 58 (recC p 1 (((ba d).size:Nat):Int) t (bs:Int) (.slice none 0 0) x)):=Z8.out.kept hb9 Z8.out.inside;have Y9:Hid (Has w9 (w.heap.size+1) 58 #[.string ⟨#[]⟩,.int .i64 0,.bool false,.int .i64 0,.int .i64 0,.int .i64 0,.int .u32 0,.int .u32 0,.int .u32 0,.int .u32 0,.int .u32 0,.int .u32 0,.int .u32 0,.int .u32 0,.int .u32 0,.int .u32 0,.int .u32 0,.int .u32 0,.int .u32 0,.int .u32 0,.int .u32 0,.int .u32 0,.int .i64 0,.slice none 0 0,.string ⟨#[]⟩,.int .i64 0,.int .i64 0]):=Y8.out.kept hb9 Y8.out.inside;have hlow:Hid (∀b,(Value.slice A9 (hashes d).length c9).ownBlock=some b→b≠w.heap.size+1∧b≠w.heap.size+2):=fun b hb=>by
    have h1:=(D9.out.own.lt b hb).1;have h2:=Z8.out.inside;omega
   clear hD hb9;have c9c:w9.cell? ⟨w.heap.size+2,23,none⟩=some (.slice none 0 0):=Z9.out.at_ 23;have c9f:=Z9.out.free 23;obtain ⟨w10,hw10⟩:∃w10,w9.setCell ⟨w.heap.size+2,23,none⟩ (.slice A9 (hashes d).length c9)=w10:=⟨_,rfl⟩;have b10:Hid (Below w.heap.size w w10):=by rw [←hw10];exact b9.out.setCell (p:=⟨w.heap.size+2,23,none⟩) (by show _≤w.heap.size+2;omega) _
   have Z10:Hid (Has w10 (w.heap.size+2) 58 (recC p 1 (((ba d).size:Nat):Int) t (bs:Int) (.slice A9 (hashes d).length c9) x)):=by rw [←hw10];exact Z9.out.put 23 _
   have Y10:Hid (Has w10 (w.heap.size+1) 58 #[.string ⟨#[]⟩,.int .i64 0,.bool false,.int .i64 0,.int .i64 0,.int .i64 0,.int .u32 0,.int .u32 0,.int .u32 0,.int .u32 0,.int .u32 0,.int .u32 0,.int .u32 0,.int .u32 0,.int .u32 0,.int .u32 0,.int .u32 0,.int .u32 0,.int .u32 0,.int .u32 0,.int .u32 0,.int .u32 0,.int .i64 0,.slice none 0 0,.string ⟨#[]⟩,.int .i64 0,.int .i64 0]):=by rw [←hw10];exact Y9.out.other (by show _≠w.heap.size+2;omega) _
   have D10:Hid (Dgs w.heap.size w10 (.slice A9 (hashes d).length c9) (hashes d)):=by
    have hd9:=D9.out.mono b8.out.size;refine ⟨row_of hd9.own fun b hb=>?_,hd9.len⟩
    rw [←hw10];exact Below.heap_setCell w9 ⟨w.heap.size+2,23,none⟩ _ b (hlow.out b hb).2
   obtain ⟨w11,hw11⟩:∃w11,w10.setRow (w.heap.size+1) (recC p 1 (((ba d).size:Nat):Int) t (bs:Int) (.slice A9 (hashes d).length c9) x)=w11:=⟨_,rfl⟩;have b11:Hid (Below w.heap.size w w11):=by rw [←hw11];exact b10.out.rowK (by omega) _
   have Y11:Hid (Has w11 (w.heap.size+1) 58 (recC p 1 (((ba d).size:Nat):Int) t (bs:Int) (.slice A9 (hashes d).length c9) x)):=by rw [←hw11];exact Y10.out.row
   have D11:Hid (Dgs w.heap.size w11 (.slice A9 (hashes d).length c9) (hashes d)):=by
    refine ⟨row_of D10.out.own fun b hb=>?_,D10.out.len⟩
    rw [←hw11];exact setRow_other w10 (w.heap.size+1) b _ (hlow.out b hb).1
   obtain ⟨hn,HHL⟩:∃hn,Hid ((hashes d).length=hn):=⟨_,rfl⟩;rw [HHL.out] at Z10 Y11 D11 hw10 hw11;rw [HHL.out];go_wp2_with (first
    | (refine wpList_load_g rfl 58 (.tmp 5) rfl (w.heap.size+2) 0 rfl (recC p 1 (((ba d).size:Nat):Int) t (bs:Int) (.slice A9 hn c9) x) (load_rec Z10.out rfl) ?_)
    | (refine wpList_store_row rfl 58 (.tmp 4) (.tmp 34) rfl (w.heap.size+1) (recC p 1 (((ba d).size:Nat):Int) t (bs:Int) (.slice A9 hn c9) x) rfl rfl 58 _ Y10.out (by kernel_rfl) rfl (by simp [recC,Value.oneCell']) ?_;rw [hw11]))
   refine bodyPost_ret (results_cell_row rfl _ _ (w.heap.size+1) 58 (recC p 1 (((ba d).size:Nat):Int) t (bs:Int) (.slice A9 hn c9) x) (0,0) _ rfl Y11.out Tryz.underlying58 rfl iRec) rfl ?_;exact ⟨_,(by rw [HRN.out]),(by rw [HHN.out];exact D11.out),b11.out⟩
 · have q:(k == 1)=false:=by simpa using h1
   have HR:Hid (recN p ⟨k,d,x,t⟩ (.slice none 0 0)=recC p k 0 t 0 (.slice none 0 0) x):=by show _=_;unfold recN sizN bsN;simp only [if_neg h1]
   have HH:Hid (hasN ⟨k,d,x,t⟩=[]):=by show _=_;unfold hasN;rw [if_neg h1]
   obtain ⟨w5,hw5⟩:∃w5,w4.setRow (w.heap.size+1) (recC p k 0 t 0 (.slice none 0 0) x)=w5:=⟨_,rfl⟩;have b5:Hid (Below w.heap.size w w5):=by rw [←hw5];exact b4.out.rowK (by omega) _
   have Y5:Hid (Has w5 (w.heap.size+1) 58 (recC p k 0 t 0 (.slice none 0 0) x)):=by rw [←hw5];exact Y4.out.row
   clear h1;go_enter Tryz.func54,Tryz.ntmps54
   go_wp2_with (first
    | (refine wpList_store_row rfl 58 (.tmp 5) (.tmp 13) rfl (w.heap.size+2) (recC p k 0 t 0 (.slice none 0 0) x) rfl rfl 58 _ Z3.out (by kernel_rfl) rfl (by simp [recC,Value.oneCell']) ?_;rw [hw4])
    | (refine wpList_load_g rfl 58 (.tmp 5) rfl (w.heap.size+2) 0 rfl (recC p k 0 t 0 (.slice none 0 0) x) (load_rec Z4.out rfl) ?_)
    | (refine wpList_store_row rfl 58 (.tmp 4) (.tmp 34) rfl (w.heap.size+1) (recC p k 0 t 0 (.slice none 0 0) x) rfl rfl 58 _ Y4.out (by kernel_rfl) rfl (by simp [recC,Value.oneCell']) ?_;rw [hw5]))
   refine bodyPost_ret (results_cell_row rfl _ _ (w.heap.size+1) 58 (recC p k 0 t 0 (.slice none 0 0) x) (0,0) _ rfl Y5.out Tryz.underlying58 rfl iRec) rfl ?_;exact ⟨.slice none 0 0,(by rw [HR.out]),(by rw [HH.out];exact Dgs.nil _ _),b5.out⟩
end Go.Proofs.YtahkcemdbfjilaaGreatDoor
