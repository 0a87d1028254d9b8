/- Several texts in one. Conditions: those said at each. -/
import Derived.ChangeKeysEq
import Derived.Test.YtahkcemdbfjilaaGreatDoorIt08
import Derived.Lib.AppendZeros
import Derived.Lib.ConvBytes
import Derived.Laws.IdiomStrings
import Derived.LoopN
import Derived.BigRegion
set_option linter.unusedSimpArgs false
set_option linter.unusedVariables false
set_option maxRecDepth 100000
namespace Go.Proofs.YtahkcemdbfjilaaGreatDoor
open Go.RowKit Go.Maps
instance:DecidableEq Nd:=fun a b =>
 if h:a.kind=b.kind∧a.data=b.data∧a.target=b.target∧a.time=b.time then .isTrue (by cases a;cases b;simp only at h;obtain ⟨h1,h2,h3,h4⟩:=h;subst h1 h2 h3 h4;rfl) else .isFalse (fun e=>h (by subst e;exact ⟨rfl,rfl,rfl,rfl⟩))
theorem nodeFields : Tryz.prog.fieldsOf 71 = #[{ name := "Kind", type := 3, offset := 0, embedded := false, tag := "", pkgPath := "", byteOffset := 0 },
 { name := "Data", type := 9, offset := 1, embedded := false, tag := "", pkgPath := "", byteOffset := 8 },
 { name := "Target", type := 9, offset := 2, embedded := false, tag := "", pkgPath := "", byteOffset := 24 },
 { name := "Time", type := 2, offset := 3, embedded := false, tag := "", pkgPath := "", byteOffset := 40 }] := by kernel_rfl
theorem eqNode_any (n m:Nd) (w:World):(binOp .eql 71 (nodeV n) (nodeV m)).run Tryz.prog w=.ok (.bool (decide (n=m))) w:=by
 obtain ⟨a,b,c,d⟩:=n;obtain ⟨a',b',c',d'⟩:=m;unfold nodeV kS;have hu:Tryz.prog.underlying 71=some (.struct (Tryz.prog.fieldsOf 71)):=by rw [nodeFields];exact Tryz.underlying71
 have pI:Tryz.prog.plainKey 3=true:=by kernel_rfl
 have pS:Tryz.prog.plainKey 9=true:=by kernel_rfl
 have pJ:Tryz.prog.plainKey 2=true:=by kernel_rfl
 have q0:∀(x y z u:Value) w,(part 3 #[x,y,z,u] 0).run Tryz.prog w=.ok x w:=fun x y z u w=>run_part_plain w pI rfl
 have q1:∀(x y z u:Value) w,(part 9 #[x,y,z,u] 1).run Tryz.prog w=.ok y w:=fun x y z u w=>run_part_plain w pS rfl
 have q2:∀(x y z u:Value) w,(part 9 #[x,y,z,u] 2).run Tryz.prog w=.ok z w:=fun x y z u w=>run_part_plain w pS rfl
 have q3:∀(x y z u:Value) w,(part 2 #[x,y,z,u] 3).run Tryz.prog w=.ok u w:=fun x y z u w=>run_part_plain w pJ rfl
 have e0:∀x y w,(Op.equalIn 9999 3 (.int .i64 x) (.int .i64 y)).run Tryz.prog w=.ok (x == y) w:=fun x y w=>run_equalIn_int w 9998 3 .i64 .i64 x y Tryz.underlying3
 have e1:∀x y w,(Op.equalIn 9999 9 (.string x) (.string y)).run Tryz.prog w=.ok (x.toList == y.toList) w:=fun x y w=>run_equalIn_string w 9998 9 x y Tryz.underlying9
 have e3:∀x y w,(Op.equalIn 9999 2 (.int .i64 x) (.int .i64 y)).run Tryz.prog w=.ok (x == y) w:=fun x y w=>run_equalIn_int w 9998 2 .i64 .i64 x y Tryz.underlying2
 rw [run_eql_struct,run_equalIn_agg _ 9999 71 _ _ hu (by kernel_rfl),nodeFields]
 simp only [Op.eqFields,Sem.run_bind,q0,e0,Result.andThen_ok,ne_eq,String.reduceEq,not_false_eq_true,if_true];by_cases h0:a=a'
 · by_cases h1:b=b'
   · by_cases h2:c=c'
     · by_cases h3:d=d'
       · subst h0 h1 h2 h3;simp [q1,q2,q3,e1,e3,toList_tl,tl_ba]
       · simp [h0,h1,h2,h3,q1,q2,q3,e1,e3,toList_tl,tl_ba]
     · simp [h0,h1,h2,q1,q2,e1,toList_tl,tl_ba]
   · simp [h0,h1,q1,e1,toList_tl,tl_ba]
 · simp [h0]
theorem neqNode_any (n m:Nd) (w:World):(binOp .neq 71 (nodeV n) (nodeV m)).run Tryz.prog w=.ok (.bool (!decide (n=m))) w:=by
 have h:=eqNode_any n m w;unfold nodeV at *;rw [run_eql_struct] at h;rw [run_neq_struct];revert h;generalize (Op.equalIn 10000 _ _ _).run Tryz.prog w=r;intro h
 cases r with
 | ok b w1=>simp [Result.andThen] at h ⊢;simp [h]
 | halt x w1=>simp [Result.andThen] at h
theorem wpList_wanted {P:Program} {ops:Array Oper} {Q:Exit→Act→World→Prop} {a:Act} {w:World} {rest:List Oper} {o:Oper} (hw:Region.wanted o (yielded ops a.tmps)=true)
 (h:∀K:Act→World→Prop,(∀a w,wpList P ops Q rest a w→K a w)→o.wp P a w K Q):wpList P ops Q (o :: rest) a w :=
 wpList_step fun K hK=>by rw [if_pos hw];exact h K hK
theorem wpList_load_g {P:Program} {ops:Array Oper} {rest:List Oper} {o:Oper} {a:Act} {w:World} {Q:Exit→Act→World→Prop} (hw:Region.wanted o (yielded ops a.tmps)=true) (ty:TypeId) (x:Operand) (ho:o.op=.load ty x)
 (g off:Nat) (hx:a.eval x=.pointer (some ⟨g,off,none⟩)) (cs:Array Value) (hl:(loadVar ty ⟨g,off,none⟩).run P w=.ok (.agg cs) w)
 (h:wpList P ops Q rest (a.put o.dst (.agg cs)) w):wpList P ops Q (o :: rest) a w :=
 wpList_wanted hw fun _ hK=>by
  unfold Oper.wp execOp;simp only [ho,hx,Instr.loadAt,Instr.sureAddr,Sem.run_bind,Sem.run_pure,Result.andThen_ok,hl];exact hK _ _ h
theorem eqG:Tryz.prog.eqGuardType Tryz.prog.depth 71=false:=by kernel_rfl
abbrev ndA (k:Int) (d x:By) (t:Int):Array Value:=#[.int .i64 k,kS d,kS x,.int .i64 t]
section
variable {ops:Array Oper} {Q:Exit→Act→World→Prop} {a:Act} {w:World} {rest:List Oper} {o:Oper}
theorem load_nodeC {w:World} {g:Nat} {k:Int} {d x:By} {t:Int} (hg:Has w g 71 (ndA k d x t)):(loadVar 71 ⟨g,0,none⟩).run Tryz.prog w=.ok (.agg (ndA k d x t)) w :=
 run_loadVar_row (P:=Tryz.prog) w g 71 71 _ (0,0) _ hg Tryz.underlying71 rfl iNode
theorem wpList_load_nodeC (hw:Region.wanted o (yielded ops a.tmps)=true) (x:Operand) (ho:o.op=.load 71 x) (g:Nat) (hx:a.eval x=.pointer (some ⟨g,0,none⟩)) (k:Int) (d y:By) (t:Int) (hg:Has w g 71 (ndA k d y t))
 (h:wpList Tryz.prog ops Q rest (a.put o.dst (.agg (ndA k d y t))) w):wpList Tryz.prog ops Q (o :: rest) a w :=
 wpList_wanted hw fun _ hK=>by
  unfold Oper.wp execOp;simp only [ho,hx,Instr.loadAt,Instr.sureAddr,Sem.run_bind,Sem.run_pure,Result.andThen_ok,load_nodeC hg];exact hK _ _ h
end
end Go.Proofs.YtahkcemdbfjilaaGreatDoor
namespace Go.Proofs.YtahkcemdbfjilaaGreatDoor
open Go.RowKit Go.Maps
def V8 (x:UInt8):Value:=.int .u8 (b8 x)
structure Bytes (w:World) (v:Value) (xs:List UInt8) (A:Option Addr) (cap bb off:Nat):Prop where
 form:v=.slice A xs.length cap
 le:xs.length≤cap
 zero:A=none→cap=0
 at_:∀a,A=some a→∀j,j < xs.length→w.cell? (a.add j)=some (V8 (at8 xs j))
 blk:bb < w.heap.size
 src:0 < xs.length→A=some ⟨bb,off,none⟩
section
variable {w w':World} {v:Value} {xs:List UInt8} {A:Option Addr} {cap bb off:Nat}
theorem add_at (bb off j:Nat):(⟨bb,off,none⟩:Addr).add j=⟨bb,off+j,none⟩:=by unfold Addr.add;split<;>simp_all
theorem Bytes.nil (w:World) (h:0 < w.heap.size):Bytes w (.slice none 0 0) [] none 0 0 0:=⟨rfl,Nat.le_refl _,fun _=>rfl,(fun _ e=>by cases e),h,(fun e=>by simp at e)⟩
theorem Bytes.kept {B:Nat} (h:Bytes w v xs A cap bb off) (hb:Below B w w') (hB:w.heap.size≤B):Bytes w' v xs A cap bb off :=
 ⟨h.form,h.le,h.zero,fun a ha j hj=>by
  have e:=h.at_ a ha j hj;exact (hb.cell (Nat.lt_of_lt_of_le (block_lt_of_cell e) hB)).trans e,Nat.lt_of_lt_of_le h.blk hb.size,h.src⟩
end
theorem V8_one (xs:List UInt8):∀u∈xs.map V8,u.oneCell'=true:=by
 intro u hu;obtain ⟨x,_,rfl⟩:=List.mem_map.1 hu;rfl
theorem map_get {xs:List UInt8} {j:Nat} {u:Value} (h:(xs.map V8)[j]? = some u):j < xs.length∧u=V8 (at8 xs j):=by
 have hj:j < xs.length:=by
  have:=(List.getElem?_eq_some_iff.1 h).1;simpa using this
 refine ⟨hj,?_⟩;rw [List.getElem?_map,List.getElem?_eq_getElem hj] at h;simp at h;rw [←h,at8,List.getD,List.getElem?_eq_getElem hj];rfl
theorem get_map {xs:List UInt8} {j:Nat} (h:j < xs.length):(xs.map V8)[j]? = some (V8 (at8 xs j)):=by
 rw [List.getElem?_map,List.getElem?_eq_getElem h];simp [at8,List.getD,List.getElem?_eq_getElem h]
theorem info5:(Tryz.prog.info? 5).map (fun i=>(i.zero,i.size,i.bytes))=some (some (.int .u8 0),1,1):=by kernel_rfl
theorem own_bytes {w:World} {B:Nat} {v:Value} {ys:List UInt8} {n:Nat} (hn:ys.length=n) (hw:0 < w.heap.size) (h:w.ownsRow B 5 1 v n (ys.map V8)):∃A cap bb,Bytes w v ys A cap bb 0∧(0 < ys.length→B≤bb)∧(v.ownBlock=some bb∨v.ownBlock=none∧bb=0):=by
 subst hn;rcases h.2 with ⟨rfl,h2⟩ | ⟨g,c,cur,rfl,hbg,hgg,h4,_⟩
 · obtain rfl:ys=[]:=List.eq_nil_of_length_eq_zero (by omega)
   exact ⟨none,0,0,Bytes.nil w hw,fun h=>by simp at h,.inr ⟨rfl,rfl⟩⟩
 · have hc:=h.cells (g:=g) rfl
   have hl:=(h.lt g rfl).2;refine ⟨some ⟨g,0,none⟩,c,g,⟨rfl,h4,(fun h=>by cases h),fun a ha j hj=>?_,hl,fun _=>rfl⟩,fun _=>hbg,.inl rfl⟩
   cases ha
   exact hc j _ (get_map hj)
theorem append_bytes (w:World) (B:Nat) (v:Value) (n:Nat) (xs:List Value) (hown:w.ownsRow B 5 1 v n xs) {src:Value} {ys:List UInt8} {A:Option Addr} {cap bb off:Nat} (hs:Bytes w src ys A cap bb off)
 (hn:n+ys.length≤1000000) (hB:B≤w.heap.size) :
 ∃v' w',(Builtin.append_ #[79,79] 79 #[v,src]).run Tryz.prog w=.ok v' w'∧w'.ownsRow B 5 1 v' (n+ys.length) (xs++ys.map V8)∧w.grownBy w' v.ownBlock ∧
  (v'=.slice none 0 0↔v=.slice none 0 0∧ys.length=0)∧(v'.ownBlock=v.ownBlock∨v'.ownBlock=some w.heap.size):=by
 obtain ⟨i0,hi,hz0,hz1,hz2⟩:=info_parts info5
 cases A with
 | none =>
  have hc:=hs.zero rfl;have hl:=hs.le;have h0:ys.length=0:=by omega
  have hy:ys=[]:=List.eq_nil_of_length_eq_zero h0;have e:=hs.form;rw [hc,h0] at e;rw [e];refine ⟨v,w,run_append_owned_none (P:=Tryz.prog) w B 79 79 5 i0 1 Tryz.underlying79 hi v n xs hown,?_,⟨rfl,rfl,rfl,Nat.le_refl _,fun _ _ _=>rfl⟩,by simp [h0],.inl rfl⟩
  rw [h0,hy];simpa using hown
 | some a =>
  rw [hs.form];exact run_append_own_at (P:=Tryz.prog) w B 79 79 5 i0 (.int .u8 0) 1 1 Tryz.underlying79 hi hz0 hz1 hz2 rfl (by omega) v n xs hown a ys.length cap (ys.map V8) (by simp)
   (fun j u hj=>by obtain ⟨h1,rfl⟩:=map_get hj;exact hs.at_ a rfl j h1) (V8_one ys) (by unfold maxLen;omega) (by omega) hB
theorem wpList_append_run {P:Program} {ops:Array Oper} {rest:List Oper} {o:Oper} {a:Act} {w:World} {Q:Exit→Act→World→Prop} (hgd:o.guard=none) (s x:Operand) (t tn:TypeId)
 (ho:o.op=.call { callee:=.builtin .append,args:=#[s,x],argTypes:=#[t,tn] })
 (h:∃v' w',(Builtin.append_ #[t,tn] o.type #[a.eval s,a.eval x]).run P w=.ok v' w'∧wpList P ops Q rest (a.put o.dst v') w'):wpList P ops Q (o :: rest) a w :=
 wpList_plain hgd fun _ hK=>by
  obtain ⟨v',w',hr,h⟩:=h;unfold Oper.wp execOp;simp only [ho,resolve,invoke,builtin,Sem.run_bind,Sem.run_pure,Result.andThen_ok,List.map_toArray,List.map_cons,List.map_nil,hr];exact hK _ _ h
theorem conv_nil (w:World):(convert 79 9 (.slice none 0 0)).run Tryz.prog w=.ok (.string ⟨#[]⟩) w:=by kernel_rfl
theorem conv_back {w:World} {v:Value} {ys:List UInt8} {A:Option Addr} {cap bb off:Nat} (h:Bytes w v ys A cap bb off):(convert 79 9 v).run Tryz.prog w=.ok (.string (ba ys)) w:=by
 have e:=h.form
 cases A with
 | none =>
  have hc:=h.zero rfl;have hl:=h.le;have h0:ys=[]:=List.eq_nil_of_length_eq_zero (by omega)
  subst h0;rw [e,hc];exact conv_nil w
 | some a =>
  rw [e];have:=run_convert_bytes_back (P:=Tryz.prog) w 79 9 5 a cap ys Tryz.underlying79 Tryz.underlying5 Tryz.underlying9 (fun j hj=>by
   rw [h.at_ a rfl j hj,V8,b8,at8,List.getD,List.getElem?_eq_getElem hj];rfl)
  exact this
def Fresh (B:Nat) (w':World) (v:Value) (xs:List UInt8):Prop:=w'.ownsRow B 5 1 v xs.length (xs.map V8)
theorem Fresh.bytes {B:Nat} {w:World} {v:Value} {xs:List UInt8} (h:Fresh B w v xs) (hw:0 < w.heap.size):∃A cap bb,Bytes w v xs A cap bb 0∧(0 < xs.length→B≤bb)∧(v.ownBlock=some bb∨v.ownBlock=none∧bb=0):=own_bytes rfl hw h
theorem fresh_nil (B:Nat) (w:World):Fresh B w (.slice none 0 0) []:=World.ownsRow_nil _ _ _ _
theorem fresh_app {B:Nat} {w:World} {v:Value} {xs:List UInt8} (h:Fresh B w v xs) {src:Value} {ys:List UInt8} {A:Option Addr} {cap bb off:Nat} (hs:Bytes w src ys A cap bb off) (hn:xs.length+ys.length≤1000000) (hB:B≤w.heap.size) :
 ∃v' w',(Builtin.append_ #[79,79] 79 #[v,src]).run Tryz.prog w=.ok v' w'∧Fresh B w' v' (xs++ys)∧w.grownBy w' v.ownBlock:=by
 obtain ⟨v',w',hr,ho,hg,_,_⟩:=append_bytes w B v xs.length (xs.map V8) h hs hn hB;refine ⟨v',w',hr,?_,hg⟩;unfold Fresh;rw [List.length_append,List.map_append];exact ho
theorem fresh_kept {B:Nat} {w w':World} {v:Value} {xs:List UInt8} (h:Fresh B w v xs) (hb:Below w.heap.size w w'):Fresh B w' v xs:=row_of h (fun g hg=>hb.block g (World.ownsRow.lt h g hg).2)
theorem index_at (s:ByteArray) (i:Nat) (h:i < s.size) (w:World):(Instr.index 9 (.string s) (.int .i64 (i:Int))).run Tryz.prog w=.ok (.int .u8 (b8 (at8 (tl s) i))) w:=by
 have hi:i < s.data.toList.length:=by simpa using h
 rw [run_index_string (P:=Tryz.prog) w 9 s .i64 (i:Int) Tryz.underlying9,dif_pos ⟨by omega,by omega⟩]
 have e:s[(i:Int).toNat]'(by simpa using h)=at8 (tl s) i:=by
  rw [at8,List.getD,List.getElem?_eq_getElem hi];rfl
 rw [e];rfl
theorem bytes_one (w:World) (z:UInt8) (fr:Nat × Nat):Bytes (w.alloc (.cells #[.int .u8 (b8 z)] 5 fr)) (.slice (some ⟨w.heap.size,0,none⟩) 1 1) [z] (some ⟨w.heap.size,0,none⟩) 1 w.heap.size 0:=by
 refine ⟨rfl,Nat.le_refl _,(fun h=>by cases h),fun a ha j hj=>?_,by simp,fun _=>rfl⟩
 cases ha
 rw [add_at,Nat.zero_add,cell_of_row _ w.heap.size j _ 5 fr (heap_alloc_new w _)];have hj:j < 1:=hj;rcases j with _ | j
 · rfl
 · omega
theorem append_byte (wr:World) (B:Nat) (v:Value) (xs:By) (h:Fresh B wr v xs) (hl:xs.length≤100000) (hB:B≤wr.heap.size) (z:UInt8) :
 ∃v' w',(Builtin.append_ #[79,79] 79 #[v,.slice (some ⟨wr.heap.size,0,none⟩) 1 1]).run Tryz.prog (wr.alloc (.cells #[.int .u8 (b8 z)] 5))=.ok v' w'∧Fresh B w' v' (xs++[z])∧Below B wr w':=by
 have hb:Below wr.heap.size wr (wr.alloc (.cells #[.int .u8 (b8 z)] 5)):=(Below.refl _ _).alloc (Nat.le_refl _) _;obtain ⟨v',w',hr,hf,hg⟩:=fresh_app (fresh_kept h hb) (bytes_one wr z (0,0)) (by simp;omega) (by simp;omega)
 refine ⟨v',w',hr,hf,?_⟩;have h2:Below B wr (wr.alloc (.cells #[.int .u8 (b8 z)] 5)):=(Below.refl _ _).alloc hB _;exact h2.grown hg (by simp;omega) (fun g hg=>(World.ownsRow.lt h g hg).1)
end Go.Proofs.YtahkcemdbfjilaaGreatDoor
namespace Go.Proofs.YtahkcemdbfjilaaGreatDoor
open Go.RowKit
section
variable {w w':World} {v:Value} {xs:List UInt8} {A:Option Addr} {cap bb off:Nat}
theorem Bytes.cells (h:Bytes w v xs A cap bb off) (j:Nat) (hj:j < xs.length):w.cell? ⟨bb,off+j,none⟩=some (V8 (at8 xs j)):=by
 have e:=h.at_ _ (h.src (by omega)) j hj
 rwa [add_at] at e
end
end Go.Proofs.YtahkcemdbfjilaaGreatDoor
namespace Go.Proofs.YtahkcemdbfjilaaGreatDoor
open Go.RowKit
def szL (n:Nat):Nat:=if n≤512 then 16 else if n≤1024 then 32 else if n≤2048 then 64 else 128
def sizeI (n:Int):Nat:=if n < 0∨4096 < n then 0 else szL n.toNat
def cntL (n:Nat):Nat:=(n+szL n - 1) / szL n
def cntI (n:Int):Nat:=if n < 0∨4096 < n then 0 else cntL n.toNat
theorem szL_cases (n:Nat):szL n=16∨szL n=32∨szL n=64∨szL n=128:=by
 unfold szL;split<;>(try split)<;>(try split)<;>simp
theorem szL_pos (n:Nat):0 < szL n:=by have:=szL_cases n;omega
theorem sizeI_nat (n:Nat) (h:n≤4096):sizeI (n:Int)=szL n:=by unfold sizeI;rw [if_neg (by omega)];rfl
theorem sizeI_no (n:Int) (h:n < 0∨4096 < n):sizeI n=0:=by unfold sizeI;rw [if_pos h]
theorem cntI_nat (n:Nat) (h:n≤4096):cntI (n:Int)=cntL n:=by unfold cntI;rw [if_neg (by omega)];rfl
theorem cntI_no (n:Int) (h:n < 0∨4096 < n):cntI n=0:=by unfold cntI;rw [if_pos h]
theorem szL_dbl {s m:Nat} (h:s*32 < m) (hm:m≤4096) (hc:s=16∨s=32∨s=64∨s=128):s*2≤szL m:=by
 have h1:szL m=if m≤512 then 16 else if m≤1024 then 32 else if m≤2048 then 64 else 128:=rfl
 by_cases a:m≤512
 · omega
 · by_cases b:m≤1024
   · rw [if_neg a,if_pos b] at h1;omega
   · by_cases c:m≤2048
     · rw [if_neg a,if_neg b,if_pos c] at h1;omega
     · rw [if_neg a,if_neg b,if_neg c] at h1;omega
theorem szL_end {s m:Nat} (h:¬s*32 < m) (h2:s≤szL m) (hc:s=16∨s=32∨s=64∨s=128):s=szL m:=by
 have h1:szL m=if m≤512 then 16 else if m≤1024 then 32 else if m≤2048 then 64 else 128:=rfl
 by_cases a:m≤512
 · rw [if_pos a] at h1;omega
 · by_cases b:m≤1024
   · rw [if_neg a,if_pos b] at h1;omega
   · by_cases c:m≤2048
     · rw [if_neg a,if_neg b,if_pos c] at h1;omega
     · rw [if_neg a,if_neg b,if_neg c] at h1;omega
theorem ret_i {a b:Int} (h:a=b):Ending.returned (.int .i64 a)=.returned (.int .i64 b):=by rw [h]
set_option maxHeartbeats 400000 in
theorem size_any (n:Int) (w:World):Calls Tryz.prog 101 #[.int .i64 n] w fun e w'=>e=.returned (.int .i64 (sizeI n:Int))∧w=w':=by
 by_cases h1:n < 0
 · have HV:Hid ((sizeI n:Int)=0):=by show _=_;rw [sizeI_no n (.inl h1)];rfl
   go_enter Tryz.func101,Tryz.ntmps101
   go_wp2;go_ret;exact ⟨ret_i HV.out.symm,rfl⟩
 · by_cases h2:4096 < n
   · have HV:Hid ((sizeI n:Int)=0):=by show _=_;rw [sizeI_no n (.inr h2)];rfl
     go_enter Tryz.func101,Tryz.ntmps101
     go_wp2;go_ret;exact ⟨ret_i HV.out.symm,rfl⟩
   · obtain ⟨m,rfl⟩:=Int.eq_ofNat_of_zero_le (a:=n) (by omega)
     have h3:¬4096 < m:=by omega
     have HV:Hid ((sizeI (m:Int):Int)=(szL m:Int)):=by show _=_;rw [sizeI_nat m (by omega)]
     go_enter Tryz.func101,Tryz.ntmps101
     go_wp2;go_loopw [3] (fun v wr=>∃s:Nat,v=.int .i64 (s:Int)∧s≤128∧Hid (s≤szL m∧(s=16∨s=32∨s=64∨s=128))∧w=wr) (fun v _=>200 - (intOf v).toNat)
     case atStart=>exact ⟨16,rfl,by omega,(⟨by have:=szL_cases m;omega,.inl rfl⟩:16≤szL m∧(16=16∨16=32∨16=64∨16=128)),rfl⟩
     case round =>
      obtain ⟨s,rfl,hs,H,rfl⟩:=hrel;have w1:IntKind.i64.wrap ((s:Int)*32)=(s:Int)*32:=i64in _ (by omega) (by omega)
      have w2:IntKind.i64.wrap ((s:Int)*2)=(s:Int)*2:=i64in _ (by omega) (by omega)
      by_cases hlt:(s:Int)*32 < (m:Int)
      · go_wp2
        go_roundw
        case rel =>
         have:=H.out;have h5:s*2≤szL m:=szL_dbl (by omega) (by omega) this.2
         have h6:=szL_cases m;exact ⟨s*2,by rw [Int.natCast_mul];rfl,by omega,(⟨h5,by omega⟩:s*2≤szL m∧_),trivial⟩
        case measure=>have:=H.out;simp [intOf];omega
      · have HE:Hid (s=szL m):=szL_end (by omega) H.out.1 H.out.2
        go_wp2;go_ret;exact ⟨ret_i (by rw [HV.out,HE.out]),rfl⟩
set_option maxHeartbeats 400000 in
theorem count_any (n:Int) (w:World):Calls Tryz.prog 68 #[.int .i64 n] w fun e w'=>e=.returned (.int .i64 (cntI n:Int))∧w=w':=by
 by_cases h:n < 0∨4096 < n
 · have HV:Hid ((cntI n:Int)=0):=by show _=_;rw [cntI_no n h];rfl
   have C:=hid (size_any n);rw [sizeI_no n h] at C;clear h;go_enter Tryz.func68,Tryz.ntmps68
   go_wp2_with (go_at_call 101;refine (C.out _).mono ?_;rintro e1 w1 ⟨rfl,rfl⟩)
   go_ret;exact ⟨ret_i HV.out.symm,rfl⟩
 · obtain ⟨m,rfl⟩:=Int.eq_ofNat_of_zero_le (a:=n) (by omega)
   have C:=hid (size_any (m:Int));rw [sizeI_nat m (by omega)] at C
   have hb:=szL_cases m;obtain ⟨s,HS⟩:∃s,Hid (szL m=s):=⟨_,rfl⟩;rw [HS.out] at C hb;have HV:Hid ((cntI (m:Int):Int)=(((m+s - 1) / s:Nat):Int)):=by show _=_;rw [cntI_nat m (by omega),cntL,HS.out]
   have hs0:((s:Int) == 0)=false:=by simp;omega
   have hs1:¬(s:Int)=0:=by omega
   have w1:IntKind.i64.wrap ((m:Int)+(s:Int))=(m:Int)+s:=i64in _ (by omega) (by omega)
   have w2:IntKind.i64.wrap ((m:Int)+(s:Int) - 1)=((m+s - 1:Nat):Int):=by rw [i64in _ (by omega) (by omega)];omega
   have w3:wrap64 (((m+s - 1:Nat):Int) / (s:Int))=(((m+s - 1) / s:Nat):Int):=by
    rw [←Int.natCast_ediv];have:=Nat.div_le_self (m+s - 1) s;generalize (m+s - 1) / s=q at this ⊢;simp only [wrap64];omega
   clear hb h;go_enter Tryz.func68,Tryz.ntmps68
   go_wp2_with (go_at_call 101;refine (C.out _).mono ?_;rintro e1 w1 ⟨rfl,rfl⟩)
   go_ret;refine ⟨ret_i ?_,rfl⟩;rw [HV.out];exact w3
end Go.Proofs.YtahkcemdbfjilaaGreatDoor
namespace Go.Proofs.YtahkcemdbfjilaaGreatDoor
open Go.RowKit
set_option maxHeartbeats 400000 in
theorem clone_any (v:Value) (xs:List UInt8) (A:Option Addr) (cap bb off:Nat) (hn:xs.length≤100000) (w:World) (h:Bytes w v xs A cap bb off) :
 Calls Tryz.prog 118 #[v] w fun e w'=>∃v',e=.returned v'∧Fresh w.heap.size w' v' xs∧Below w.heap.size w w':=by
 have e0:=h.form;have q22:∀(w:World) (a:Option Addr) (n c n' c':Nat),(binOp .eql 79 (.slice a n c) (.slice none n' c')).run Tryz.prog w=.ok (.bool a.isNone) w:=fun w a n c n' c'=>Lib.run_eql_slice_nil w _ _ a n c n' c' Tryz.underlying79
 cases A with
 | none =>
  have hc:=h.zero rfl;have hl:=h.le;obtain rfl:xs=[]:=List.eq_nil_of_length_eq_zero (by omega)
  rw [e0,hc];clear e0 h hn;go_enter Tryz.func118,Tryz.ntmps118
  go_wp2;go_ret;exact ⟨_,rfl,World.ownsRow_nil _ _ _ _,Below.refl _ _⟩
 | some a =>
  rw [e0];have hb0:Below w.heap.size w (w.alloc (.cells #[] 5)):=(Below.refl _ _).alloc (Nat.le_refl _) _;have h0:(w.alloc (.cells #[] 5)).ownsRow w.heap.size 5 1 (.slice (some ⟨w.heap.size,0,none⟩) 0 0) 0 []:=World.ownsRow_made w #[] 0 (Nat.le_refl _) (by unfold maxLen;omega) rfl
  have h1:=h.kept hb0 (Nat.le_refl _);rw [e0] at h1;obtain ⟨v',w',hr,ho,hg,_,_⟩:=append_bytes _ _ _ _ _ h0 h1 (by omega) (by simp)
  have HRR:=hid hr;have HO:Hid (Fresh w.heap.size w' v' xs):=by
   rw [Nat.zero_add,List.nil_append] at ho;exact ho
  have HB:Hid (Below w.heap.size w w'):=hb0.grown hg (by simp) (fun k hk=>by simp [Value.ownBlock] at hk;omega)
  clear hr ho hg hb0 h0 h1 h hn e0;go_enter Tryz.func118,Tryz.ntmps118
  go_wp2_with (refine wpList_append_run rfl (.tmp 5) (.tmp 6) 79 79 rfl ⟨v',w',HRR.out,?_⟩)
  go_ret;exact ⟨_,rfl,HO.out,HB.out⟩
theorem conv_string (s:ByteArray) (w:World):(convert 9 79 (.string s)).run Tryz.prog w=.ok (.slice (some ⟨w.heap.size,0,none⟩) s.size (grownCap w s.size 0 5)) (Lib.bytesWorld w 5 s) :=
 Lib.run_convert_string_bytes w 9 79 5 s Tryz.underlying9 Tryz.underlying79 Tryz.underlying5
theorem conv_below (s:ByteArray) (w:World):Below w.heap.size w (Lib.bytesWorld w 5 s) :=
 ⟨rfl,rfl,rfl,by rw [Lib.bytesWorld_size];omega,fun j hj=>Lib.bytesWorld_at_old w 5 s j hj⟩
theorem conv_bytes (s:ByteArray) (w:World):Bytes (Lib.bytesWorld w 5 s) (.slice (some ⟨w.heap.size,0,none⟩) s.size (grownCap w s.size 0 5)) (tl s) (some ⟨w.heap.size,0,none⟩) (grownCap w s.size 0 5) w.heap.size 0:=by
 refine ⟨by rw [tl_length],by rw [tl_length];exact grownCap_ge _ _ _ _,(fun h=>by cases h),fun a ha j hj=>?_,by rw [Lib.bytesWorld_size];omega,fun _=>rfl⟩
 cases ha
 rw [tl_length] at hj;rw [add_at,Nat.zero_add,Lib.bytesWorld_cell w 5 s j hj];rfl
theorem Bytes.mid {w:World} {v:Value} {xs:List UInt8} {A:Option Addr} {cap bb off:Nat} (h:Bytes w v xs A cap bb off) (m k:Nat) (hm:m+k≤xs.length) (h0:0 < k) :
 (∀w:World,(Instr.slice 79 v (some (.int .i64 (m:Int))) (some (.int .i64 ((m+k:Nat):Int))) none).run Tryz.prog w=.ok (.slice (some ⟨bb,off+m,none⟩) k (cap - m)) w) ∧
   Bytes w (.slice (some ⟨bb,off+m,none⟩) k (cap - m)) ((xs.drop m).take k) (some ⟨bb,off+m,none⟩) (cap - m) bb (off+m):=by
 have he:Tryz.prog.elem 79=5:=by kernel_rfl
 have hs:∀w,(sizeOf (Tryz.prog.elem 79)).run Tryz.prog w=.ok 1 w:=by intro w;rw [he];kernel_rfl
 have hle:=h.le;have hsrc:=h.src (by omega)
 have hl:((xs.drop m).take k).length=k:=by rw [List.length_take,List.length_drop];omega
 refine ⟨?_,?_⟩
 · intro w
   rw [h.form,hsrc,run_slice_lh (P:=Tryz.prog) w 79 (some ⟨bb,off,none⟩) xs.length cap (by kernel_rfl) .i64 .i64 (m:Int) ((m+k:Nat):Int) (by omega) (by omega) (by omega),hs]
   simp only [Result.andThen,sliced,Int.toNat_natCast,Nat.mul_one];rw [if_neg (by omega),show m+k - m=k by omega]
   simp only [Option.map_some,add_at]
 · refine ⟨by rw [hl],by rw [hl];omega,(fun e=>by cases e),fun a ha j hj=>?_,h.blk,fun _=>rfl⟩
   cases ha
   rw [hl] at hj;rw [add_at,Nat.add_assoc,h.cells (m+j) (by omega)]
   congr 2
   simp [at8,List.getD,List.getElem?_drop,hj]
def partL (xs:List UInt8) (k:Nat):List UInt8:=(xs.drop (k*szL xs.length)).take (szL xs.length)
def partI (xs:List UInt8) (i:Int):List UInt8:=if i < 0∨(cntI xs.length:Int)≤i then [] else partL xs i.toNat
theorem cnt_lt {n k:Nat} (h:k < cntL n):k*szL n < n:=by
 unfold cntL at h;have hp:=szL_pos n;have h1:(k+1)*szL n≤n+szL n - 1:=(Nat.le_div_iff_mul_le hp).1 h;rw [Nat.add_mul] at h1;omega
theorem cntL_le (n:Nat) (h:n≤4096):cntL n≤32:=by
 unfold cntL;have h1:szL n=if n≤512 then 16 else if n≤1024 then 32 else if n≤2048 then 64 else 128:=rfl
 by_cases a:n≤512
 · rw [if_pos a] at h1;rw [h1];omega
 · by_cases b:n≤1024
   · rw [if_neg a,if_pos b] at h1;rw [h1];omega
   · by_cases c:n≤2048
     · rw [if_neg a,if_neg b,if_pos c] at h1;rw [h1];omega
     · rw [if_neg a,if_neg b,if_neg c] at h1;rw [h1];omega
set_option maxHeartbeats 4000000 in
theorem part_any (v:Value) (xs:List UInt8) (A:Option Addr) (cap bb off:Nat) (i:Int) (w:World) (h:Bytes w v xs A cap bb off) :
 Calls Tryz.prog 70 #[v,.int .i64 i] w fun e w'=>∃v',e=.returned v'∧Fresh w.heap.size w' v' (partI xs i)∧Below w.heap.size w w':=by
 obtain ⟨n,HN⟩:∃n,Hid (xs.length=n):=⟨_,rfl⟩;by_cases h1:i < 0
 · have HV:Hid (partI xs i=[]):=by show _=_;rw [partI,if_pos (.inl h1)]
   have e0:=h.form;rw [HN.out] at e0;rw [e0];clear h e0;go_enter Tryz.func70,Tryz.ntmps70
   go_wp2;go_ret;exact ⟨_,rfl,by rw [HV.out];exact fresh_nil _ _,Below.refl _ _⟩
 · obtain ⟨k,rfl⟩:=Int.eq_ofNat_of_zero_le (a:=i) (by omega)
   have C1:=hid (count_any (n:Int));obtain ⟨c,HC⟩:∃c,Hid (cntI (n:Int)=c):=⟨_,rfl⟩;rw [HC.out] at C1;by_cases h2:(c:Int)≤(k:Int)
   · have HV:Hid (partI xs (k:Int)=[]):=by show _=_;rw [partI,if_pos (.inr (by rw [HN.out,HC.out];exact h2))]
     have e0:=h.form;rw [HN.out] at e0;rw [e0];clear h e0;go_enter Tryz.func70,Tryz.ntmps70
     go_wp2_with (go_at_call 68;refine (C1.out _).mono ?_;rintro e1 w1 ⟨rfl,rfl⟩)
     go_ret;exact ⟨_,rfl,by rw [HV.out];exact fresh_nil _ _,Below.refl _ _⟩
   · have hn:n≤4096:=by
      rcases Nat.lt_or_ge 4096 n with hx | hx
      · have:=HC.out;rw [cntI_no _ (.inr (by omega))] at this;omega
      · exact hx
     have hc:cntL n=c:=by rw [←HC.out,cntI_nat n hn]
     have hk:=cnt_lt (n:=n) (k:=k) (by omega)
     have hc32:=cntL_le n hn;have hs:=szL_cases n;have C2:=hid (size_any (n:Int));rw [sizeI_nat n hn] at C2;obtain ⟨s,HS⟩:∃s,Hid (szL n=s):=⟨_,rfl⟩;rw [HS.out] at C2 hk hs;obtain ⟨m,HM⟩:∃m,Hid (k*s=m):=⟨_,rfl⟩;obtain ⟨q,HQ⟩:∃q,Hid ((k+1)*s=q):=⟨_,rfl⟩;have hq:q=m+s:=by rw [←HQ.out,←HM.out,Nat.add_mul];omega
     rw [HM.out] at hk;obtain ⟨p,HP⟩:∃p,Hid (min s (n - m)=p):=⟨_,rfl⟩;have hp:=HP.out;have hw1:IntKind.i64.wrap ((k:Int)*(s:Int))=(m:Int):=by rw [←HM.out,Int.natCast_mul];refine i64in _ ?_ ?_<;>rw [←Int.natCast_mul,HM.out]<;>omega
     have hw2:IntKind.i64.wrap ((k:Int)+1)=(k:Int)+1:=i64in _ (by omega) (by omega)
     have hw3:IntKind.i64.wrap (((k:Int)+1)*(s:Int))=(q:Int):=by
      have e:((k:Int)+1)*(s:Int)=(q:Int):=by rw [←HQ.out,Int.natCast_mul];rfl
      rw [e];exact i64in _ (by omega) (by omega)
     have hsrc:=h.src (by rw [HN.out];omega)
     subst hsrc;have hcm:¬cap=m:=by have:=h.le;rw [HN.out] at this;omega
     have hmn:(m:Int)≤(n:Int):=by omega
     have hncap:(n:Int)≤(cap:Int):=by have:=h.le;rw [HN.out] at this;omega
     have hmp:m+p=min q n:=by omega
     have HMID:=(h.mid m p (by rw [HN.out];omega) (by omega)).2
     have HVS:Hid ((xs.drop m).take p=partI xs (k:Int)):=by
      show _=_
      rw [partI,if_neg (by rw [HN.out,HC.out];omega),partL,HN.out,HS.out,Int.toNat_natCast,HM.out,←HP.out]
      have hl:(xs.drop m).length=n - m:=by rw [List.length_drop,HN.out]
      rw [Nat.min_comm,←hl,←List.take_take];exact List.take_of_length_le (by rw [List.length_take];omega)
     have HL:(partI xs (k:Int)).length≤100000:=by rw [←HVS.out,List.length_take];omega
     rw [HVS.out] at HMID;have e0:=h.form;rw [HN.out] at e0;rw [e0];have HCL:=hid (clone_any _ _ _ _ _ _ HL _ HMID);have h3:¬(k:Int) < 0:=h1;have h4:¬(c:Int)≤(k:Int):=h2;rcases Nat.lt_or_ge n q with hqn | hqn
     · have hp2:p=n - m:=by omega
       have h5:(n:Int) < (q:Int):=by omega
       have h6:¬(q:Int)≤(n:Int):=by omega
       have h8:min (q:Int) (n:Int)=(n:Int):=by omega
       rw [hp2] at HCL;clear HVS HL h e0 HMID hk hc hc32 hs hq hp hn hmp hp2 HP;go_enter Tryz.func70,Tryz.ntmps70
       go_wp2_with (first
        | (go_at_call 68;refine (C1.out _).mono ?_;rintro e1 w1 ⟨rfl,rfl⟩)
        | (go_at_call 101;refine (C2.out _).mono ?_;rintro e2 w2 ⟨rfl,rfl⟩)
        | (go_at_call 118;refine HCL.out.mono ?_;rintro e3 w3 ⟨v3,rfl,hf3,hb3⟩))
       go_ret;exact ⟨_,rfl,hf3,hb3⟩
     · have hp2:p=q - m:=by omega
       have h5:(q:Int)≤(n:Int):=by omega
       have h6:(m:Int)≤(q:Int):=by omega
       have h7:(q:Int)≤(cap:Int):=by omega
       have h8:min (q:Int) (n:Int)=(q:Int):=by omega
       rw [hp2] at HCL;clear HVS HL h e0 HMID hk hc hc32 hs hq hp hn hmp hp2 HP;go_enter Tryz.func70,Tryz.ntmps70
       go_wp2_with (first
        | (go_at_call 68;refine (C1.out _).mono ?_;rintro e1 w1 ⟨rfl,rfl⟩)
        | (go_at_call 101;refine (C2.out _).mono ?_;rintro e2 w2 ⟨rfl,rfl⟩)
        | (go_at_call 118;refine HCL.out.mono ?_;rintro e3 w3 ⟨v3,rfl,hf3,hb3⟩))
       go_ret;exact ⟨_,rfl,hf3,hb3⟩
end Go.Proofs.YtahkcemdbfjilaaGreatDoor
namespace Go.Proofs.YtahkcemdbfjilaaGreatDoor.Sha
open Go.RowKit
theorem hid {p:Prop} (h:p):Hid p:=h
def u (x:BitVec 32):Int:=(x.toNat:Int)
def rotR (x:BitVec 32) (n:Nat):BitVec 32:=x.rotateRight n
def shR (x:BitVec 32) (n:Nat):BitVec 32:=x >>> n
theorem wrap32 (x:Int):IntKind.u32.wrap x=x % 4294967296:=by
 simp [IntKind.wrap,IntKind.signed,IntKind.bits]
theorem nat32 (v:BitVec 32):((v.toNat:Int) % 4294967296)=v.toNat:=by have:=v.isLt;omega
theorem xor32 (x y:BitVec 32):bits .xor .u32 (u x) (u y)=u (x ^^^ y):=by
 unfold bits u;rw [wrap32];simp only [BitVec.ofInt_natCast,BitVec.ofNat_toNat,IntKind.bits,BitVec.setWidth_eq];exact nat32 _
theorem and32 (x y:BitVec 32):bits .and .u32 (u x) (u y)=u (x &&& y):=by
 unfold bits u;rw [wrap32];simp only [BitVec.ofInt_natCast,BitVec.ofNat_toNat,IntKind.bits,BitVec.setWidth_eq];exact nat32 _
theorem or32 (x y:BitVec 32):bits .or .u32 (u x) (u y)=u (x ||| y):=by
 unfold bits u;rw [wrap32];simp only [BitVec.ofInt_natCast,BitVec.ofNat_toNat,IntKind.bits,BitVec.setWidth_eq];exact nat32 _
theorem add32 (x y:BitVec 32):(u x+u y) % 4294967296=u (x+y):=by
 unfold u;rw [BitVec.toNat_add];omega
theorem shl32 (x:BitVec 32) (n:Nat):u x*2 ^ n % 4294967296=u (x <<< n):=by
 simp [u,BitVec.toNat_shiftLeft,Nat.shiftLeft_eq]
theorem shr32 (x:BitVec 32) (n:Nat):u x / 2 ^ n=u (shR x n):=by
 simp [u,shR,BitVec.toNat_ushiftRight,Nat.shiftRight_eq_div_pow]
theorem rot32 (x:BitVec 32) (n:Nat) (h:n≤31):x <<< (32 - n) ||| shR x n=rotR x n:=by
 unfold rotR shR;rw [BitVec.rotateRight_def,Nat.mod_eq_of_lt (by omega),BitVec.or_comm]
theorem not32 (x:BitVec 32):bits .xor .u32 4294967295 (u x)=u (~~~x):=by
 have h:(4294967295:Int)=u (BitVec.allOnes 32):=rfl;rw [h,xor32,BitVec.allOnes_xor]
set_option maxHeartbeats 400000 in
theorem rot_any (x:BitVec 32) (n:Nat) (h1:1≤n) (h2:n≤31) (w:World) :
 Calls Tryz.prog 247 #[.int .u32 (u x),.int .i64 (-(n:Int))] w fun e w'=>e=.returned (.int .u32 (u (rotR x n)))∧w=w':=by
 have hb:bits BinOp.and IntKind.u64 (IntKind.u64.wrap (-(n:Int))) 31=((32 - n:Nat):Int):=by
  have:∀n:Fin 32,1≤n.val→bits BinOp.and IntKind.u64 (IntKind.u64.wrap (-(n.val:Int))) 31=((32 - n.val:Nat):Int):=by decide
  exact this ⟨n,by omega⟩ h1
 have hc:IntKind.u64.wrap (32 - ((32 - n:Nat):Int))=(n:Int):=by
  have:∀n:Fin 32,1≤n.val→IntKind.u64.wrap (32 - ((32 - n.val:Nat):Int))=(n.val:Int):=by decide
  exact this ⟨n,by omega⟩ h1
 go_enter Tryz.func247,Tryz.ntmps247
 go_wp2;go_ret;exact ⟨by rw [shl32,shr32,or32,rot32 _ _ h2];rfl,rfl⟩
set_option maxHeartbeats 400000 in
theorem right_any (x:BitVec 32) (n:Nat) (h1:1≤n) (h2:n≤31) (w:World) :
 Calls Tryz.prog 208 #[.int .u32 (u x),.int .i64 (n:Int)] w fun e w'=>e=.returned (.int .u32 (u (rotR x n)))∧w=w':=by
 go_enter Tryz.func208,Tryz.ntmps208
 go_wp2_with (go_at_call 247;refine (rot_any _ _ h1 h2 _).mono ?_;rintro e w' ⟨rfl,rfl⟩)
 go_ret;exact ⟨rfl,rfl⟩
theorem right_c (x:BitVec 32) (c:Int) (h:1≤c∧c≤31) (w:World) :
 Calls Tryz.prog 208 #[.int .u32 (u x),.int .i64 c] w fun e w'=>e=.returned (.int .u32 (u (rotR x c.toNat)))∧w=w':=by
 obtain ⟨n,rfl⟩:=Int.eq_ofNat_of_zero_le (a:=c) (by omega)
 exact right_any x n (by omega) (by omega) w
theorem right_s (x:BitVec 32) (c:Int) (h:1≤c∧c≤31) (w:World) :
 Calls Tryz.prog 208 #[.int .u32 (u x),.int .i64 c] w fun e w'=>e=.returned (.int .u32 (u (rotR x c.toNat)))∧w'=w :=
 (right_c x c h w).mono fun _ _ ⟨h1,h2⟩=>⟨h1,h2.symm⟩
end Go.Proofs.YtahkcemdbfjilaaGreatDoor.Sha
namespace Go.Proofs.YtahkcemdbfjilaaGreatDoor.Sha
open Go.RowKit
def Has (w:World) (g:Nat) (t:TypeId) (cs:Array Value):Prop:=w.heap[g]? = some (.cells cs t (0,0))
section
variable {w w':World} {g:Nat} {t:TypeId} {cs:Array Value}
theorem Has.inside (h:Has w g t cs):g < w.heap.size:=by
 unfold Has at h;exact (Array.getElem?_eq_some_iff.1 h).1
theorem Has.at_ (h:Has w g t cs) (i:Nat):w.cell? ⟨g,i,none⟩=cs[i]?:=cell_of_row w g i cs t (0,0) h
theorem Has.free (h:Has w g t cs) (i:Nat):w.frozen? ⟨g,i,none⟩=false:=by
 unfold Has at h;simp [World.frozen?,h]
theorem Has.fresh (w:World) (t:TypeId) (cs:Array Value):Has (w.alloc (.cells cs t)) w.heap.size t cs:=heap_alloc_new w _
theorem Has.fresh' (w:World) (t:TypeId) (cs:Array Value) {g:Nat} (hg:g=w.heap.size):Has (w.alloc (.cells cs t)) g t cs:=by subst hg;exact Has.fresh w t cs
theorem Has.drawn (h:Has w g t cs) (n:Nat):Has (w.drewN n) g t cs:=h
theorem Has.more (h:Has w g t cs) (o:Obj):Has (w.alloc o) g t cs:=(Below.heap_alloc w o g h.inside).trans h
theorem Has.put (h:Has w g t cs) (i:Nat) (v:Value):Has (w.setCell ⟨g,i,none⟩ v) g t (cs.setIfInBounds i v):=by
 unfold Has at h ⊢;simp [World.setCell,Array.getElem?_modify,h]
theorem Has.other (h:Has w g t cs) {p:Addr} (hp:g≠p.block) (v:Value):Has (w.setCell p v) g t cs:=(Below.heap_setCell w p v g hp).trans h
theorem Has.kept {B:Nat} (h:Has w g t cs) (hb:Below B w w') (hg:g < B):Has w' g t cs:=(hb.block g hg).trans h
end
def at32 (l:List (BitVec 32)) (i:Nat):BitVec 32:=l.getD i 0
def vec (l:List (BitVec 32)):Array Value:=(l.map fun x=>Value.int .u32 (u x)).toArray
theorem vec_size (l:List (BitVec 32)):(vec l).size=l.length:=by simp [vec]
theorem vec_get (l:List (BitVec 32)) (i:Nat) (h:i < l.length):(vec l)[i]? = some (Value.int .u32 (u (at32 l i))):=by
 simp [vec,at32,List.getElem?_eq_getElem h,List.getD]
theorem vec_set (l:List (BitVec 32)) (i:Nat) (x:BitVec 32):(vec l).setIfInBounds i (.int .u32 (u x))=vec (l.set i x):=by
 simp [vec,List.map_set]
theorem vec_one (l:List (BitVec 32)):(vec l).all (·.oneCell')=true:=by simp [vec,Value.oneCell']
def b8 (x:UInt8):Int:=(x.toNat:Int)
theorem b8_nonneg (x:UInt8):0≤b8 x:=by unfold b8;omega
theorem b8_lt (x:UInt8):b8 x < 256:=by have:=x.toNat_lt;unfold b8;omega
def at8 (l:List UInt8) (i:Nat):UInt8:=l.getD i 0
def bvec (l:List UInt8):Array Value:=(l.map fun x=>Value.int .u8 (b8 x)).toArray
theorem bvec_size (l:List UInt8):(bvec l).size=l.length:=by simp [bvec]
theorem bvec_get (l:List UInt8) (i:Nat) (h:i < l.length):(bvec l)[i]? = some (Value.int .u8 (b8 (at8 l i))):=by
 simp [bvec,at8,List.getElem?_eq_getElem h,List.getD]
theorem bvec_set (l:List UInt8) (i:Nat) (x:UInt8):(bvec l).setIfInBounds i (.int .u8 (b8 x))=bvec (l.set i x):=by
 simp [bvec,List.map_set]
theorem bvec_one (l:List UInt8):(bvec l).all (·.oneCell')=true:=by simp [bvec,Value.oneCell']
theorem i66:(Tryz.prog.info? 54).map (·.size)=some 16:=by kernel_rfl
theorem i34:(Tryz.prog.info? 232).map (·.size)=some 8:=by kernel_rfl
theorem i35:(Tryz.prog.info? 234).map (·.size)=some 64:=by kernel_rfl
theorem i25:(Tryz.prog.info? 81).map (·.size)=some 32:=by kernel_rfl
theorem i37:(Tryz.prog.info? 236).map (·.size)=some 74:=by kernel_rfl
theorem Has.row {w:World} {g:Nat} {t:TypeId} {cs cs':Array Value} (h:Has w g t cs):Has (w.setRow g cs') g t cs':=setRow_heap w g cs cs' t (0,0) h
theorem Has.rowOther {w:World} {g g':Nat} {t:TypeId} {cs cs':Array Value} (h:Has w g t cs) (hg:g≠g'):Has (w.setRow g' cs') g t cs:=(setRow_other w g' g cs' hg).trans h
def wd (x:UInt8):BitVec 32:=BitVec.ofNat 32 x.toNat
def shL (x:BitVec 32) (n:Nat):BitVec 32:=x <<< n
theorem b8_u (x:UInt8):b8 x=u (wd x):=by
 have:=x.toNat_lt;simp only [b8,u,wd,BitVec.toNat_ofNat];omega
theorem i64in (x:Int) (h0:0≤x) (h:x < 9223372036854775808):IntKind.i64.wrap x=x:=by
 simp [IntKind.wrap,IntKind.signed,IntKind.bits];omega
theorem ret32 {x y:BitVec 32} (h:x=y):Ending.returned (.int .u32 (u x))=.returned (.int .u32 (u y)):=by rw [h]
end Go.Proofs.YtahkcemdbfjilaaGreatDoor.Sha
namespace Go.Proofs.YtahkcemdbfjilaaGreatDoor.Sha
open Go.RowKit
def sig0 (x:BitVec 32):BitVec 32:=rotR x 7 ^^^ rotR x 18 ^^^ shR x 3
def sig1 (x:BitVec 32):BitVec 32:=rotR x 17 ^^^ rotR x 19 ^^^ shR x 10
def nextW (l:List (BitVec 32)) (t:Nat):BitVec 32 :=
 at32 l (t % 16)+sig0 (at32 l ((t+1) % 16))+at32 l ((t+9) % 16)+sig1 (at32 l ((t+14) % 16))
theorem modE (t:Nat):∃j:Nat,(t:Int) % 16=(j:Int)∧j < 16∧Hid (t % 16=j):=⟨t % 16,by omega,by omega,rfl⟩
theorem modEk (t k:Nat):∃j:Nat,((t:Int)+(k:Int)) % 16=(j:Int)∧j < 16∧Hid ((t+k) % 16=j):=⟨(t+k) % 16,by omega,by omega,rfl⟩
set_option maxHeartbeats 400000 in
theorem next_any (l:List (BitVec 32)) (hl:l.length=16) (t:Nat) (ht:t < 64) (w:World) :
 Calls Tryz.prog 207 #[.agg (vec l),.int .i64 (t:Int)] w fun e w'=>e=.returned (.int .u32 (u (nextW l t)))∧Below w.heap.size w w':=by
 have w1:IntKind.i64.wrap ((t:Int)+1)=(t:Int)+1:=i64in _ (by omega) (by omega)
 have w14:IntKind.i64.wrap ((t:Int)+14)=(t:Int)+14:=i64in _ (by omega) (by omega)
 have w9:IntKind.i64.wrap ((t:Int)+9)=(t:Int)+9:=i64in _ (by omega) (by omega)
 obtain ⟨j0,m0,b0,H0⟩:=modE t;obtain ⟨j1,m1,b1,H1⟩:∃j:Nat,((t:Int)+1) % 16=(j:Int)∧j < 16∧Hid ((t+1) % 16=j):=modEk t 1;obtain ⟨j9,m9,b9,H9⟩:∃j:Nat,((t:Int)+9) % 16=(j:Int)∧j < 16∧Hid ((t+9) % 16=j):=modEk t 9;obtain ⟨j14,m14,b14,H14⟩:∃j:Nat,((t:Int)+14) % 16=(j:Int)∧j < 16∧Hid ((t+14) % 16=j):=modEk t 14;have c0:=vec_get l j0 (by omega)
 have c1:=vec_get l j1 (by omega)
 have c9:=vec_get l j9 (by omega)
 have c14:=vec_get l j14 (by omega)
 have hs:=vec_size l;have HL:=hid hl;clear hl;have X:=xor32;have A32:=add32;have R3:∀x,u x / 8=u (shR x 3):=fun x=>shr32 x 3
 have R10:∀x,u x / 1024=u (shR x 10):=fun x=>shr32 x 10
 have HN:Hid (nextW l t=at32 l j0+sig0 (at32 l j1)+at32 l j9+sig1 (at32 l j14)):=by
  unfold nextW;rw [H0.out,H1.out,H9.out,H14.out];rfl
 go_enter Tryz.func207,Tryz.ntmps207
 go_wp2;go_quiet (fail)
 go_wp2_with (go_at_call 208;refine (right_c _ _ (by decide) _).mono ?_;rintro e w' ⟨rfl,rfl⟩)
 go_quiet (fail)
 go_wp2;go_ret;refine ⟨ret32 HN.out.symm,?_⟩;exact (((Below.refl _ _).alloc (Nat.le_refl _) _).drewN' _).drewN' _
end Go.Proofs.YtahkcemdbfjilaaGreatDoor.Sha
