/- Texts. Conditions: as said. -/
import Derived.Test.YtahkcemdbfjilaaGreatDoorFj00
import Derived.Test.YtahkcemdbfjilaaGreatDoorFj20
set_option linter.all false
set_option maxRecDepth 100000
set_option maxHeartbeats 32000000
namespace Go.Proofs.YtahkcemdbfjilaaGreatDoor
open Go.ChangeShapes Go.WideShapes Go.ChangeAt Go.ChangeMaps Go.WideElems Go.RowKit Go.Deep
def Ay {w:World} {a:Addr} {v:Value} (h:w.cell? (a.add 0)=some v):a=⟨a.block,a.off,none⟩:=by
 have e:a.add 0=a:=rfl;rw [e] at h;obtain ⟨b,o,s⟩:=a
 cases s with
 | none=>rfl
 | some x =>
  simp only [World.cell?] at h;split at h
  . simp at h
  cases h
def add_add (a:Addr) (i j:Nat):(a.add i).add j=a.add (i+j):=by
 obtain ⟨b,o,s⟩:=a;unfold Addr.add;by_cases WW:j=0
 . subst WW;simp
 by_cases WX:i=0
 . simp [WW,WX]
 simp [WW,WX,Nat.add_assoc]
def Hj {α:Type} (z:α) (n:Nat) (R:Nat->α->Prop) (h:∀i,i < n->∃x,R i x):∃xs:List α,xs.length=n/\∀i,i < n->R i (xs.getD i z):=by
 refine ⟨(List.range n).map fun i=>if h':i < n then Classical.choose (h i h') else z,by simp,fun i hi=>?_⟩;have e:((List.range n).map fun i=>if h':i < n then Classical.choose (h i h') else z).getD i z=Classical.choose (h i hi):=by
  simp [List.getD,hi]
 rw [e];exact Classical.choose_spec (h i hi)
def ew {k:IntKind} {n:Int} (h:(Lit.int k n).wf=true):k.min<=n/\n<=k.max:=by
 simpa [Lit.wf] using h
def pN {H:Type} {P:Program} {e:TypeId}:∀{l:List (DataW H)} {d:DataW H},d∈l->∀n∈d.weights P e,n∈DataW.weightsAll P e l
 | x :: r,d,h,n,hn=>by
  simp only [DataW.weightsAll,List.mem_append];rcases List.mem_cons.1 h with rfl | h
  . exact .inl hn
  exact .inr (pN h n hn)
def nN:reachBytes=140737488351232:=rfl
section
variable {H:Type} {enc:TypeId × Value->H} {w:World} {base:Nat} {spare:Nat->Bool} {held:Bool}
theorem Nx {r:Reach} {b0:Nat} {v:Value} {d:DataW H} {p:List MemPlace} (hv:Value.okWide Tryz.prog w r b0 22 v) (h:DataW.Trod enc Tryz.prog w base spare held 22 v d p) (p9:∀n∈d.weights Tryz.prog 22,n<=reachBytes) :
 ∃(A:Option Addr) (n cap bb off:Nat) (xs:List bS),v=.slice A n cap/\mA w A n bb off xs/\n<=maxLen:=by
 have hC:Tryz.prog.cellsOf 89=5:=by kernel_rfl
 have O8:Tryz.prog.cellsOf 3=1:=by kernel_rfl
 have mj:Tryz.prog.cellsOf 2=1:=by kernel_rfl
 have yi:Tryz.prog.cellsOf 9=1:=by kernel_rfl
 obtain ⟨A,n,cap,rfl⟩:=okWide_slice Tryz.underlying22 hv;obtain ⟨fuel,hf⟩:=h;rcases open_slice Tryz.underlying22 hf with ⟨s6,_⟩ | ⟨a,len,cap',m,fu,D,Pl,s6,hb,hl,hm,rl,PO,hx⟩
 . have e:[Value.slice A n cap]=[Value.slice none 0 0]:=s6
   simp only [List.cons.injEq,Value.slice.injEq,and_true] at e;obtain ⟨rfl,rfl,rfl⟩:=e;exact ⟨none,0,0,0,0,[],rfl,⟨rfl,fun h=>absurd h (by omega),fun i h=>absurd h (by omega),fun x h=>(by cases h)⟩,Nat.zero_le _⟩
 have e:[Value.slice A n cap]=[Value.slice (some a) len cap']:=s6;simp only [List.cons.injEq,Value.slice.injEq,and_true] at e;obtain ⟨rfl,rfl,rfl⟩:=e;simp only [Prod.mk.injEq] at PO;obtain ⟨rfl,_⟩:=PO;have MQ:n<=cap:=hl;have p5:n<=m:=by rw [rl];split<;>omega
 have key:∀i,i < n->∃x:bS,w.cell? (a.add (i*5))=some (.int .i64 x.kind)/\w.cell? (a.add (i*5+1))=some (kS x.p)/\w.cell? (a.add (i*5+2))=some (kS x.text)/\w.cell? (a.add (i*5+3))=some (.int .i64 x.long) /\
  w.cell? (a.add (i*5+4))=some (.int .i64 x.time)/\PutOk x:=by
  intro i hi;obtain ⟨cs',h1,h2⟩:=hx i (by omega);have EP:∀z∈(D i).weights Tryz.prog 89,z<=reachBytes:=fun z hz=>p9 z (by
   simp only [DataW.weights,Tryz.underlying22,List.mem_cons,List.mem_append];exact .inr (.inl (pN (List.mem_map.2 ⟨i,List.mem_range.2 hi,rfl⟩) z hz)))
  rw [hC] at h1;obtain ⟨_,f8,GP⟩:=World.cells?_some h1;match cs',f8 with
  | [c0,c1,c2,c3,c4],_ =>
   have k0:=GP 0 (by omega);have k1:=GP 1 (by omega);have k2:=GP 2 (by omega);have k3:=GP 3 (by omega);have k4:=GP 4 (by omega);rw [add_add] at k0 k1 k2 k3 k4;obtain ⟨xs,m',_,vh,_,f8,hg⟩:=DataW.trod_struct Tryz.underlying89 h2;match xs,f8 with
   | [y0,y1,y2,y3,y4],_ =>
    have g0:DataW.trod enc Tryz.prog w base spare held m' 3 [c0]=some y0:=by have:=hg 0 _ rfl;simpa [O8] using this
    have g1:DataW.trod enc Tryz.prog w base spare held m' 9 [c1]=some y1:=by have:=hg 1 _ rfl;simpa [yi] using this
    have g2:DataW.trod enc Tryz.prog w base spare held m' 9 [c2]=some y2:=by have:=hg 2 _ rfl;simpa [yi] using this
    have g3:DataW.trod enc Tryz.prog w base spare held m' 3 [c3]=some y3:=by have:=hg 3 _ rfl;simpa [O8] using this
    have g4:DataW.trod enc Tryz.prog w base spare held m' 2 [c4]=some y4:=by have:=hg 4 _ rfl;simpa [mj] using this
    obtain ⟨n0,i0,_,q0⟩:=DataW.trod_int Tryz.underlying3 g0;obtain ⟨s1,i1,r1,_⟩:=DataW.trod_string Tryz.underlying9 g1;obtain ⟨s2,i2,r2,_⟩:=DataW.trod_string Tryz.underlying9 g2;obtain ⟨n3,i3,_,q3⟩:=DataW.trod_int Tryz.underlying3 g3;obtain ⟨n4,i4,_,q4⟩:=DataW.trod_int Tryz.underlying2 g4;simp only [List.cons.injEq,and_true] at i0 i1 i2 i3 i4;subst i0 i1 i2 i3 i4;have q3:=ew q3;simp only [IntKind.min,IntKind.max,IntKind.signed,IntKind.bits] at q3;simp at q3;simp only [Prod.mk.injEq] at vh;have hD:=vh.1;rw [hD] at EP;simp only [DataW.weights,Tryz.underlying89] at EP;have z1:s1.data.toList.length<=140737488351232:=by
     have:=EP s1.data.toList.length (by rw [r1];simp [DataW.weightsEach,DataW.weights]);rwa [nN] at this
    have z2:s2.data.toList.length<=140737488351232:=by
     have:=EP s2.data.toList.length (by rw [r2];simp [DataW.weightsEach,DataW.weights]);rwa [nN] at this
    refine ⟨⟨n0,tl s1,tl s2,n3,n4⟩,k0,?_,?_,k3,k4,⟨z1,z2,q3.1,by show n3<=_;omega⟩⟩
    . show _=some (Value.string (ba (tl s1)));rw [pW];exact k1
    show _=some (Value.string (ba (tl s2)));rw [pW];exact k2
 rcases Nat.eq_zero_or_pos n with h0 | h0
 . subst h0
   exact ⟨some a,0,cap,0,0,[],rfl,⟨rfl,fun h=>absurd h (by omega),fun i h=>absurd h (by omega),fun x h=>(by cases h)⟩,Nat.zero_le _⟩
 obtain ⟨x0,k0,_⟩:=key 0 h0;rw [Nat.zero_mul] at k0;have ha:=Ay k0;have d8:a.block < w.heap.size:=World.block_lt_of_cell? w (a.add 0) k0;obtain ⟨xs,hl,JW⟩:=Hj put0 n _ key;have e0:∀k,a.add k=⟨a.block,a.off+k,none⟩:=fun k=>by
  conv=>lhs;rw [ha]
  rw [bY]
 have oo:∀x∈xs,∃i,i < n/\x=xs.getD i put0:=fun x hx=>by
  obtain ⟨i,hi,rfl⟩:=List.getElem_of_mem hx;exact ⟨i,by omega,by rw [List.getD,List.getElem?_eq_getElem hi];rfl⟩
 refine ⟨some a,n,cap,a.block,a.off,xs,rfl,⟨hl,fun _=>⟨by rw [<-ha],d8⟩,fun i hi=>?_,fun x hx=>?_⟩,Nat.le_trans MQ hm⟩
 . obtain ⟨k0,k1,k2,k3,k4,_⟩:=JW i hi
   rw [e0] at k0 k1 k2 k3 k4;exact ⟨k0,k1,k2,k3,k4⟩
 obtain ⟨i,hi,rfl⟩:=oo x hx;exact (JW i hi).2.2.2.2.2
theorem Ix {r:Reach} {b0:Nat} {v:Value} {d:DataW H} {p:List MemPlace} (hv:Value.okWide Tryz.prog w r b0 23 v) (h:DataW.Trod enc Tryz.prog w base spare held 23 v d p) (p9:∀n∈d.weights Tryz.prog 23,n<=reachBytes) :
 ∃(A:Option Addr) (n cap bb off:Nat) (fs:Glob.Fl),v=.slice A n cap/\Glob.kI w A n bb off fs/\(∀f∈fs,f.1.length<=140737488351232/\f.2.length<=140737488351232)/\n<=maxLen:=by
 have hC:Tryz.prog.cellsOf 91=2:=by kernel_rfl
 have yi:Tryz.prog.cellsOf 9=1:=by kernel_rfl
 obtain ⟨A,n,cap,rfl⟩:=okWide_slice Tryz.underlying23 hv;obtain ⟨fuel,hf⟩:=h;rcases open_slice Tryz.underlying23 hf with ⟨s6,_⟩ | ⟨a,len,cap',m,fu,D,Pl,s6,hb,hl,hm,rl,PO,hx⟩
 . have e:[Value.slice A n cap]=[Value.slice none 0 0]:=s6
   simp only [List.cons.injEq,Value.slice.injEq,and_true] at e;obtain ⟨rfl,rfl,rfl⟩:=e;exact ⟨none,0,0,0,0,[],rfl,⟨rfl,fun h=>absurd h (by omega),fun i h=>absurd h (by simp),fun i h=>absurd h (by simp)⟩,fun x h=>(by cases h),Nat.zero_le _⟩
 have e:[Value.slice A n cap]=[Value.slice (some a) len cap']:=s6;simp only [List.cons.injEq,Value.slice.injEq,and_true] at e;obtain ⟨rfl,rfl,rfl⟩:=e;simp only [Prod.mk.injEq] at PO;obtain ⟨rfl,_⟩:=PO;have MQ:n<=cap:=hl;have p5:n<=m:=by rw [rl];split<;>omega
 have key:∀i,i < n->∃x:By × By,w.cell? (a.add (i*2))=some (kS x.1)/\w.cell? (a.add (i*2+1))=some (kS x.2)/\x.1.length<=140737488351232/\x.2.length<=140737488351232:=by
  intro i hi;obtain ⟨cs',h1,h2⟩:=hx i (by omega);have EP:∀z∈(D i).weights Tryz.prog 91,z<=reachBytes:=fun z hz=>p9 z (by
   simp only [DataW.weights,Tryz.underlying23,List.mem_cons,List.mem_append];exact .inr (.inl (pN (List.mem_map.2 ⟨i,List.mem_range.2 hi,rfl⟩) z hz)))
  rw [hC] at h1;obtain ⟨_,f8,GP⟩:=World.cells?_some h1;match cs',f8 with
  | [c0,c1],_ =>
   have k0:=GP 0 (by omega);have k1:=GP 1 (by omega);rw [add_add] at k0 k1;obtain ⟨xs,m',_,vh,_,f8,hg⟩:=DataW.trod_struct Tryz.underlying91 h2;match xs,f8 with
   | [y0,y1],_ =>
    have g0:DataW.trod enc Tryz.prog w base spare held m' 9 [c0]=some y0:=by have:=hg 0 _ rfl;simpa [yi] using this
    have g1:DataW.trod enc Tryz.prog w base spare held m' 9 [c1]=some y1:=by have:=hg 1 _ rfl;simpa [yi] using this
    obtain ⟨s1,i1,r1,_⟩:=DataW.trod_string Tryz.underlying9 g0;obtain ⟨s2,i2,r2,_⟩:=DataW.trod_string Tryz.underlying9 g1;simp only [List.cons.injEq,and_true] at i1 i2;subst i1 i2;simp only [Prod.mk.injEq] at vh;have hD:=vh.1;rw [hD] at EP;simp only [DataW.weights,Tryz.underlying91] at EP;have z1:s1.data.toList.length<=140737488351232:=by
     have:=EP s1.data.toList.length (by rw [r1];simp [DataW.weightsEach,DataW.weights]);rwa [nN] at this
    have z2:s2.data.toList.length<=140737488351232:=by
     have:=EP s2.data.toList.length (by rw [r2];simp [DataW.weightsEach,DataW.weights]);rwa [nN] at this
    refine ⟨(tl s1,tl s2),?_,?_,z1,z2⟩
    . show _=some (Value.string (ba (tl s1)));rw [pW];exact k0
    show _=some (Value.string (ba (tl s2)));rw [pW];exact k1
 rcases Nat.eq_zero_or_pos n with h0 | h0
 . subst h0
   exact ⟨some a,0,cap,0,0,[],rfl,⟨rfl,fun h=>absurd h (by omega),fun i h=>absurd h (by simp),fun i h=>absurd h (by simp)⟩,fun x h=>(by cases h),Nat.zero_le _⟩
 obtain ⟨x0,k0,_⟩:=key 0 h0;rw [Nat.zero_mul] at k0;have ha:=Ay k0;have d8:a.block < w.heap.size:=World.block_lt_of_cell? w (a.add 0) k0;obtain ⟨xs,hl,JW⟩:=Hj (([],[]):By × By) n _ key;have e0:∀k,a.add k=⟨a.block,a.off+k,none⟩:=fun k=>by
  conv=>lhs;rw [ha]
  rw [bY]
 have O6:∀i (hi:i < xs.length),xs.getD i ([],[])=xs[i]:=fun i hi=>by rw [List.getD,List.getElem?_eq_getElem hi];rfl
 refine ⟨some a,n,cap,a.block,a.off,xs,rfl,⟨hl,fun _=>⟨by rw [<-ha],d8⟩,fun i hi=>?_,fun i hi=>?_⟩,fun x hx=>?_,Nat.le_trans MQ hm⟩
 . obtain ⟨k0,k1,_⟩:=JW i (by omega)
   rw [e0,O6 i hi] at k0 k1;exact ⟨k0,k1⟩
 . obtain ⟨_,_,z1,z2⟩:=JW i (by omega)
   rw [O6 i hi] at z1 z2;unfold maxLen;exact ⟨by omega,by omega⟩
 obtain ⟨i,hi,rfl⟩:=List.getElem_of_mem hx;obtain ⟨_,_,z1,z2⟩:=JW i (by omega);rw [O6 i hi] at z1 z2;exact ⟨z1,z2⟩
end
open Go.RowKit Go.Maps
def Co:(Tryz.prog.info? 58).map (·.size)=some 27:=by kernel_rfl
def oO {fn:Func} {c:Nat} {t:Tmp} (h:fn.results=#[.cell c 58,.tmp t]) (tmps:Array Value) (w:World) (g:Nat) (cs:Array Value) (hc:tmps.getD c undef=.pointer (some ⟨g,0,none⟩)) (hg:Has w g 58 cs) (hi:cs.size=27) :
 (results fn tmps).run Tryz.prog w=.ok (.tuple #[.agg cs,tmps.getD t undef]) w:=by
 have zm:tmps[c]?.getD undef=.pointer (some ⟨g,0,none⟩):=by simpa using hc
 have hl:=run_loadVar_row (P:=Tryz.prog) w g 58 58 cs (0,0) _ hg Tryz.underlying58 rfl (by rw [hi];exact Co);simp [results,h,zm,asAddr,hl]
def vX:Array Value:=recC [] 0 0 0 0 (.slice none 0 0) []
def Uj:vX.all (·.oneCell')=true:=by
 rw [Array.all_eq_true];intro i hi;exact cT [] n0 (.slice none 0 0) rfl _ (by rw [Array.mem_toList_iff];exact Array.getElem_mem hi)
def itemM (L:Tr) (root q:By):Int × Nd:=if mayB (root++47 :: q) then (match look L (root++47 :: q) with | some n=>if eT n then (3,n0) else (0,n) | none=>(5,n0)) else (10,n0)
def Hh (p:By) (n:Nd) (bv:Value) (hb:bv.oneCell'=true):(recN p n bv).all (·.oneCell')=true:=by
 rw [Array.all_eq_true];intro i hi;exact cT p n bv hb _ (by rw [Array.mem_toList_iff];exact Array.getElem_mem hi)
open Go.RowKit Go.Maps
def Dgs.byte {B:Nat} {w:World} {A:Option Addr} {n c:Nat} {hs:List (List UInt8)} (h:Dgs B w (.slice A n c) hs) (h0:0 < hs.length):∃g,A=some ⟨g,0,none⟩/\g < w.heap.size/\∀k (hk:k < hs.length) j,j < 32->w.cell? ⟨g,k*32+j,none⟩=some (V8 (at8 (hs[k]) j)):=by
 rcases h.own.2 with ⟨_,h2⟩ | ⟨g,c,cur,h1,hB,h3,h4⟩
 . omega
 injection h1 with h1 _ _;refine ⟨g,h1,(World.ownsRow.lt h.own g (by rw [h1];rfl)).2,fun k hk j hj=>?_⟩;have f8:(hs[k]).length=32:=h.len _ (List.getElem_mem hk);have:=World.ownsRow.cells (g:=g) h.own (by rw [h1];rfl) (k*32+j) (V8 (at8 (hs[k]) j)) (by
  rw [Zs hs h.len k hk j hj,List.getElem?_map,List.getElem?_eq_getElem (by omega)];simp [at8,List.getElem?_eq_getElem (show j < (hs[k]).length by omega)])
 rwa [bY,Nat.zero_add] at this
def Gz {B B':Nat} {w:World} {A A':Option Addr} {n c c':Nat} {hs:List (List UInt8)} (h:Dgs B w (.slice A n c) hs) (h':Dgs B' w (.slice A' n c') hs) (hn:hs.length=n) (hb:n<=100000) :
 qC 203 #[.slice A n c,.slice A' n c'] w fun e w'=>e=.returned (.int .i64 0)/\qW w w':=by
 have H:=hid h;have H':=hid h';have HN:=hid hn;have hbi:(n:Int)<=100000:=by omega
 clear h h' hn;go_enter Tryz.func203,Tryz.ntmps203
 go_wp2;go_loopw [5] (fun v5 wr=>∃k:Nat,v5=.int .i64 (k:Int)/\k<=n/\Hid (qW w wr)) (fun v5 _=>n - (intOf v5).toNat)
 case atStart=>exact ⟨0,rfl,by omega,Below.refl _ _⟩
 obtain ⟨k,rfl,hk,J⟩:=hrel;by_cases d8:k < n
 .
  have o3:k < hs.length:=by rw [HN.o];exact d8
  obtain ⟨g,rfl,hg,hc⟩:=H.o.byte (by omega);obtain ⟨g',rfl,vn,PH⟩:=H'.o.byte (by omega);have ilt:(k:Int) < (n:Int):=by omega
  have i0:(0:Int)<=(k:Int):=by omega
  have w1:IntKind.i64.wrap ((k:Int)+1)=(k:Int)+1:=aM _ (by omega) (by omega);have HC:Hid (∀W,qW w W->∀j,j < 32->W.cell? ⟨g,k*32+j,none⟩=some (V8 (at8 (hs[k]) j))):=fun W hW j hj=>(hW.cell (p:=⟨g,k*32+j,none⟩) hg).trans (hc k o3 j hj)
  have HC':Hid (∀W,qW w W->∀j,j < 32->W.cell? ⟨g',k*32+j,none⟩=some (V8 (at8 (hs[k]) j))):=fun W hW j hj=>(hW.cell (p:=⟨g',k*32+j,none⟩) vn).trans (PH k o3 j hj)
  generalize hs[k]=d at HC HC';clear hc PH hg vn o3;obtain ⟨wo,hwo⟩:∃wo,wo=wr:=⟨_,rfl⟩;subst hwo;go_wp2;go_loopw [6] (fun v6 ws=>∃j:Nat,v6=.int .i64 (j:Int)/\j<=32/\Hid (qW w ws)) (fun v6 _=>32 - (intOf v6).toNat)
  case atStart=>exact ⟨0,rfl,by omega,J.o⟩
  obtain ⟨j,rfl,hj,J2⟩:=hrel;by_cases hlj:j < 32
  .
   have jlt:(j:Int) < 32:=by omega
   have j0:(0:Int)<=(j:Int):=by omega
   have w2:IntKind.i64.wrap ((j:Int)+1)=(j:Int)+1:=aM _ (by omega) (by omega);obtain ⟨wf,N0⟩:=qY (wr.drew);have bf:qW wr wf:=N0▸qB.drew;have JF:Hid (qW w wf):=J2.o.trans (bf.mono J2.o.size);have k1:wf.cell? ⟨g,k*32+j,none⟩=some (.int .u8 (b8 (at8 d j))):=HC.o wf JF.o j hlj;have k2:wf.cell? ⟨g',k*32+j,none⟩=some (.int .u8 (b8 (at8 d j))):=HC'.o wf JF.o j hlj;generalize b8 (at8 d j)=b at k1 k2;clear bf;go_wp2;refine qG (S:=fun V=>V=wf) (by kernel_rfl) (N0) (fun hS=>?_);clear hS;rw [N0];have WY:wf=wf:=rfl;refine aG 0 ?_
   iterate 5
    refine qT rfl (by kernel_rfl) ‹_› (fun w a8=>by go_simp;with_reducible rfl) ?_;simp only [Act.put,aB,aA,aC,Nat.reduceAdd]
   refine aE ?_;refine qK 5 rfl (by kernel_rfl) ‹_› (fun w a8=>by subst a8;have c1:=k1;go_simp;with_reducible rfl) ?_;simp only [Act.put,aB,aA,aC];refine aG 6 ?_
   iterate 5
    refine qT rfl (by kernel_rfl) ‹_› (fun w a8=>by go_simp;with_reducible rfl) ?_;simp only [Act.put,aB,aA,aC,Nat.reduceAdd]
   refine aE ?_;refine qK 11 rfl (by kernel_rfl) ‹_› (fun w a8=>by subst a8;have c1:=k2;go_simp;with_reducible rfl) ?_;simp only [Act.put,aB,aA,aC];refine qK 12 rfl (by kernel_rfl) ‹_› (fun w a8=>by go_simp;with_reducible rfl) ?_;simp only [Act.put,aB,aA,aC];clear WY;refine qM (by kernel_rfl) ?_;clear k1 k2;go_wp2;go_roundw
   case rel=>exact ⟨j+1,by go_num,by omega,JF.o⟩
   case measure=>simp [intOf];omega
  have hj32:¬(j:Int) < 32:=by omega
  go_wp2;go_roundw
  case rel=>exact ⟨k+1,by go_num,by omega,J2.o⟩
  case measure=>simp [intOf];omega
 have kge:¬(k:Int) < (n:Int):=by omega
 go_wp2;go_ret;exact ⟨rfl,J.o⟩
def Ca {B B':Nat} {w:World} {A A':Option Addr} {n c c':Nat} {hs:List (List UInt8)} (h:Dgs B w (.slice A n c) hs) (h':Dgs B' w (.slice A' n c') hs) (hn:hs.length=n) (hb:n<=100000) :
 qC 165 #[.slice A n c,.slice A' n c'] w fun e w'=>e=.returned (.bool true)/\qW w w':=by
 have C:=hid (Gz h h' hn hb);clear h h' hn;go_enter Tryz.func165,Tryz.ntmps165
 go_wp2_with fail
 refine C.o.mono ?_;rintro e1 w1 ⟨rfl,c8⟩;go_wp2;go_ret;exact ⟨rfl,c8⟩
open Go.RowKit Go.Maps
def sN:Array Value:=#[.int .u32 0,.int .u32 0,.int .u32 0,.int .u32 0,.int .u32 0,.int .u32 0,.int .u32 0,.int .u32 0,.int .u32 0,.int .u32 0,.int .u32 0,.int .u32 0,.int .u32 0,.int .u32 0,.int .u32 0,.int .u32 0]
def la:Tryz.prog.eqGuardType Tryz.prog.depth 55=false:=by kernel_rfl
def Tm (w:World):(binOp .eql 55 (.agg sN) (.agg sN)).run Tryz.prog w=.ok (.bool true) w:=by
 rw [run_eql_struct];kernel_rfl
def Bn {ops:Array Oper} {o:Oper} {a:Act} {Q:Exit->Act->World->Prop} {w:World} {rest:List Oper} (hw:Region.wanted o (yielded ops a.tmps)=true)
 (x y:Operand) (ho:o.op=.binOp .eql 55 x y 55) (hx:a.eval x=.agg sN) (hy:a.eval y=.agg sN) (h:wpList Tryz.prog ops Q rest (a.put o.dst (.bool true)) w):wpList Tryz.prog ops Q (o :: rest) a w :=
 eV hw fun _ hK=>by
  unfold Oper.wp execOp;simp only [ho,hx,hy,Sem.run_bind,run_eqGuard_agg w .eql 55 x y _ _ la,Tm w,Result.andThen_ok];exact hK _ _ h
structure Twin (w:World) (cs cs':Array Value):Prop where
 eq:∃(p:By) (k sz tm bs:Int) (tg:By) (A A':Option Addr) (n c c':Nat) (hs:List (List UInt8)) (B B':Nat),cs=recC p k sz tm bs (.slice A n c) tg/\cs'=recC p k sz tm bs (.slice A' n c') tg /\
  Dgs B w (.slice A n c) hs/\Dgs B' w (.slice A' n c') hs/\hs.length=n/\n<=100000
def Twin.on {w w':World} {cs cs':Array Value} (h:Twin w cs cs') (hb:qW w w'):Twin w' cs cs':=by
 obtain ⟨p,k,sz,tm,bs,tg,A,A',n,c,c',hs,B,B',h1,h2,h3,h4,h5⟩:=h.eq;exact ⟨⟨p,k,sz,tm,bs,tg,A,A',n,c,c',hs,B,B',h1,h2,h3.kq (Kq.of_below hb),h4.kq (Kq.of_below hb),h5⟩⟩
def yI (w:World) (cs cs':Array Value):∃W,(w.alloc (.cells cs 58)).alloc (.cells cs' 58)=W/\qW w W/\Has W w.heap.size 58 cs/\Has W (w.heap.size+1) 58 cs' :=
 ⟨_,rfl,(qB.alloc qN _).alloc (by simp) _,(Has.fresh w _ _).more _,Has.fresh' _ _ _ (by simp)⟩
def Ed {w:World} {cs cs':Array Value} (h:Twin w cs cs'):qC 111 #[.agg cs,.agg cs'] w fun e w'=>e=.returned (.bool true)/\qW w w':=by
 obtain ⟨p,k,sz,tm,bs,tg,A,A',n,c,c',hs,B,B',rfl,rfl,h3,h4,h5,h6⟩:=h.eq;obtain ⟨W,hW,hb,f1,f2⟩:=yI w (recC p k sz tm bs (.slice A n c) tg) (recC p k sz tm bs (.slice A' n c') tg);have C:=hid (Ca (h3.kq (Kq.of_below hb)) (h4.kq (Kq.of_below hb)) h5 h6);have x2:W.cell? ⟨w.heap.size,2,none⟩=some (.bool false):=f1.at_ 2;have y2:W.cell? ⟨w.heap.size+1,2,none⟩=some (.bool false):=f2.at_ 2;have x1:W.cell? ⟨w.heap.size,1,none⟩=some (.int .i64 k):=f1.at_ 1;have y1:W.cell? ⟨w.heap.size+1,1,none⟩=some (.int .i64 k):=f2.at_ 1;have x3:W.cell? ⟨w.heap.size,3,none⟩=some (.int .i64 sz):=f1.at_ 3;have y3:W.cell? ⟨w.heap.size+1,3,none⟩=some (.int .i64 sz):=f2.at_ 3;have x24:W.cell? ⟨w.heap.size,24,none⟩=some (kS tg):=f1.at_ 24;have y24:W.cell? ⟨w.heap.size+1,24,none⟩=some (kS tg):=f2.at_ 24;have x23:W.cell? ⟨w.heap.size,23,none⟩=some (.slice A n c):=f1.at_ 23;have y23:W.cell? ⟨w.heap.size+1,23,none⟩=some (.slice A' n c'):=f2.at_ 23;have HB:=hid hb;clear h h3 h4 h5 h6 hb f1 f2;go_enter Tryz.func111,Tryz.ntmps111
 go_wp2_with fail
 try rw [hW]
 refine C.o.mono ?_;rintro e1 w1 ⟨rfl,c8⟩;go_wp2;go_ret;exact ⟨rfl,HB.o.trans (c8.mono HB.o.size)⟩
def ir:(Tryz.prog.info? 55).map (·.size)=some 16:=by kernel_rfl
def Hi {w:World} {g:Nat} {p:By} {k sz tm bs:Int} {bv:Value} {tg:By} (h:Has w g 58 (recC p k sz tm bs bv tg)):(loadVar 55 ⟨g,6,none⟩).run Tryz.prog w=.ok (.agg sN) w:=by
 refine run_loadVar_mid (P:=Tryz.prog) w g 6 55 sN.toList _ (fun j u hj=>?_) Tryz.underlying55 rfl (by show _=some 16;exact ir);have EB:j < 16:=(List.getElem?_eq_some_iff.1 hj).1;rw [h.at_ (6+j)];have:∀j,j < 16->(recC p k sz tm bs bv tg)[6+j]? = sN.toList[j]?:=by
  intro j hj;match j,hj with
  | 0,_=>rfl
  | 1,_=>rfl
  | 2,_=>rfl
  | 3,_=>rfl
  | 4,_=>rfl
  | 5,_=>rfl
  | 6,_=>rfl
  | 7,_=>rfl
  | 8,_=>rfl
  | 9,_=>rfl
  | 10,_=>rfl
  | 11,_=>rfl
  | 12,_=>rfl
  | 13,_=>rfl
  | 14,_=>rfl
  | 15,_=>rfl
  | j+16,hj=>omega
 rw [this j EB];exact hj
def Kk {w:World} {cs cs':Array Value} (h:Twin w cs cs'):qC 64 #[.agg cs,.agg cs'] w fun e w'=>e=.returned (.bool true)/\qW w w':=by
 obtain ⟨W,hW,hb,f1,f2⟩:=yI w cs cs';have C:=hid (Ed (h.on hb));obtain ⟨p,k,sz,tm,bs,tg,A,A',n,c,c',hs,B,B',e1,e2,h3,h4,h5,h6⟩:=h.eq;have F1:Hid (Has W w.heap.size 58 cs):=f1;have F2:Hid (Has W (w.heap.size+1) 58 cs'):=f2;have LV1:Hid ((loadVar 55 ⟨w.heap.size,6,none⟩).run Tryz.prog W=.ok (.agg sN) W):=Hi (e1▸f1);have LV2:Hid ((loadVar 55 ⟨w.heap.size+1,6,none⟩).run Tryz.prog W=.ok (.agg sN) W):=Hi (e2▸f2);have z1:cs.size=27:=by rw [e1];rfl
 have z2:cs'.size=27:=by rw [e2];rfl
 have LA:Hid ((loadVar 58 ⟨w.heap.size,0,none⟩).run Tryz.prog W=.ok (.agg cs) W):=gI f1 z1;have LB:Hid ((loadVar 58 ⟨w.heap.size+1,0,none⟩).run Tryz.prog W=.ok (.agg cs') W):=gI f2 z2;have x0:W.cell? ⟨w.heap.size,0,none⟩=some (kS p):=by rw [e1] at f1;exact f1.at_ 0
 have y0:W.cell? ⟨w.heap.size+1,0,none⟩=some (kS p):=by rw [e2] at f2;exact f2.at_ 0
 have x4:W.cell? ⟨w.heap.size,4,none⟩=some (.int .i64 tm):=by rw [e1] at f1;exact f1.at_ 4
 have y4:W.cell? ⟨w.heap.size+1,4,none⟩=some (.int .i64 tm):=by rw [e2] at f2;exact f2.at_ 4
 have x5:W.cell? ⟨w.heap.size,5,none⟩=some (.int .i64 0):=by rw [e1] at f1;exact f1.at_ 5
 have y5:W.cell? ⟨w.heap.size+1,5,none⟩=some (.int .i64 0):=by rw [e2] at f2;exact f2.at_ 5
 have x22:W.cell? ⟨w.heap.size,22,none⟩=some (.int .i64 bs):=by rw [e1] at f1;exact f1.at_ 22
 have y22:W.cell? ⟨w.heap.size+1,22,none⟩=some (.int .i64 bs):=by rw [e2] at f2;exact f2.at_ 22
 have x26:W.cell? ⟨w.heap.size,26,none⟩=some (.int .i64 0):=by rw [e1] at f1;exact f1.at_ 26
 have y26:W.cell? ⟨w.heap.size+1,26,none⟩=some (.int .i64 0):=by rw [e2] at f2;exact f2.at_ 26
 have HB:=hid hb;clear h h3 h4 h5 h6 hb f1 f2 e1 e2 z1 z2;go_enter Tryz.func64,Tryz.ntmps64
 go_wp2_with (first
  | (refine aT (by rfl) 55 (.tmp 25) rfl w.heap.size 6 rfl sN LV1.o ?_)
  | (refine aT (by rfl) 55 (.tmp 27) rfl (w.heap.size+1) 6 rfl sN LV2.o ?_)
  | (refine Bn (by rfl) (.tmp 26) (.tmp 28) rfl rfl rfl ?_)
  | (refine aT (by rfl) 58 (.tmp 2) rfl w.heap.size 0 rfl cs LA.o ?_)
  | (refine aT (by rfl) 58 (.tmp 3) rfl (w.heap.size+1) 0 rfl cs' LB.o ?_))
 try rw [hW]
 refine C.o.mono ?_;rintro e1 w1 ⟨rfl,c8⟩;go_wp2;go_ret;exact ⟨rfl,HB.o.trans (c8.mono HB.o.size)⟩
def Fk {w:World} {cs cs':Array Value} (h:Twin w cs cs'):qC 22 #[.agg cs,.agg cs'] w fun e w'=>e=.returned (.bool true)/\qW w w':=by
 obtain ⟨W,hW,hb,f1,f2⟩:=yI w cs cs';have C:=hid (Kk (h.on hb));obtain ⟨p,k,sz,tm,bs,tg,A,A',n,c,c',hs,B,B',e1,e2,h3,h4,h5,h6⟩:=h.eq;have z1:cs.size=27:=by rw [e1];rfl
 have z2:cs'.size=27:=by rw [e2];rfl
 have LA:Hid ((loadVar 58 ⟨w.heap.size,0,none⟩).run Tryz.prog W=.ok (.agg cs) W):=gI f1 z1;have LB:Hid ((loadVar 58 ⟨w.heap.size+1,0,none⟩).run Tryz.prog W=.ok (.agg cs') W):=gI f2 z2;have x25:W.cell? ⟨w.heap.size,25,none⟩=some (.int .i64 0):=by rw [e1] at f1;exact f1.at_ 25
 have y25:W.cell? ⟨w.heap.size+1,25,none⟩=some (.int .i64 0):=by rw [e2] at f2;exact f2.at_ 25
 have HB:=hid hb;clear h h3 h4 h5 h6 hb f1 f2 e1 e2 z1 z2;go_enter Tryz.func22,Tryz.ntmps22
 go_wp2_with (first
  | (refine aT (by rfl) 58 (.tmp 2) rfl w.heap.size 0 rfl cs LA.o ?_)
  | (refine aT (by rfl) 58 (.tmp 3) rfl (w.heap.size+1) 0 rfl cs' LB.o ?_))
 try rw [hW]
 refine C.o.mono ?_;rintro e1 w1 ⟨rfl,c8⟩;go_wp2;go_ret;exact ⟨rfl,HB.o.trans (c8.mono HB.o.size)⟩
open Go.RowKit Go.Maps
section
variable {own:Nat->Prop} {w:World} {r:Nat} {M:Mo}
theorem RDkI.short {tL ts:Nat} {sv:Value} {es:List Rw} {fused:Bool} {left:Int} (h:RDkI own w r tL ts sv es fused left M):M.now.length<=16384:=by
 have h1:=jZ (L:=M.now);have h2:=h.good.good.w1.used;have h3:=h.r1;omega
end
structure gw (g1 g2 k:Nat) (x:By) (W:World):Prop where
 c1:W.cell? ⟨g1,k,none⟩=some (kS x)
 c2:W.cell? ⟨g2,k,none⟩=some (kS x)
def Pe (w:World) (A A':Option Addr) (c c' g1 g2:Nat) (xs:List By) (h1:Names w A g1 xs) (h2:Names w A' g2 xs) (hn:xs.length<=100000) :
 qC 58 #[.slice A xs.length c,.slice A' xs.length c'] w fun e w'=>e=.returned (.bool true)/\qW w w':=by
 have H1:=hid h1;have H2:=hid h2;obtain ⟨n,HN⟩:=qX (xs.length);rw [HN.o] at hn ⊢;clear h1 h2;go_enter Tryz.func58,Tryz.ntmps58
 go_wp2;go_loopw [5] (fun v5 wr=>∃k:Nat,v5=.int .i64 (k:Int)/\k<=n/\Hid (qW w wr)) (fun v5 _=>n - (intOf v5).toNat)
 case atStart=>exact ⟨0,rfl,by omega,Below.refl _ _⟩
 obtain ⟨k,rfl,hk,J1⟩:=hrel;by_cases d8:k < n
 .
  have o3:k < xs.length:=by rw [HN.o];exact d8
  have n1:=H1.o.on J1.o.drew;have n2:=H2.o.on J1.o.drew;have a1:=n1.ad (by omega);have a2:=n2.ad (by omega);subst a1 a2;have SD:Hid (gw g1 g2 k xs[k] wr.drew):=⟨n1.cell k o3,n2.cell k o3⟩;have J1d:=hid J1.o.drew;obtain ⟨x,hx⟩:∃x,x=xs[k]:=⟨_,rfl⟩;rw [<-hx] at SD;have q:((ba x).toList == (ba x).toList)=true:=by simp
  have q2:((ba x).toList != (ba x).toList)=false:=by simp
  have ni:(k:Int) < (n:Int):=by omega
  have h0:(0:Int)<=(k:Int):=by omega
  have w1:IntKind.i64.wrap ((k:Int)+1)=(k:Int)+1:=aM _ (by omega) (by omega);clear n1 n2 o3 hx;go_wp2;refine qG (S:=gw g1 g2 k x) (by kernel_rfl) (SD.o) (fun hS=>?_);generalize wr.drew=w3 at *;refine aG 0 ?_
  iterate 9
   refine qT rfl (by kernel_rfl) ‹_› (fun w a8=>by have h1:=a8.c1;have h2:=a8.c2;go_simp;with_reducible rfl) ?_;simp only [Act.put,aB,aA,aC,Nat.reduceAdd]
  refine aE ?_;refine qM (by kernel_rfl) ?_;go_wp2;go_roundw
  case rel=>exact ⟨k+1,by go_num,by omega,J1d.o⟩
  case measure=>simp [intOf];omega
 go_wp2;go_ret;exact ⟨rfl,J1.o⟩
open Go.RowKit Go.Maps
def mL {B:Nat} {w:World} {v:Value} {xs:By} (h:Fresh B w v xs) (hw:0 < w.heap.size):(convert 79 9 v).run Tryz.prog w=.ok (kS xs) w:=by
 obtain ⟨A,c,b,hy,_⟩:=Ad rfl hw h;exact Sc hy
def Fi:¬lB 89:=by unfold lB;decide
def Kb:¬lB 5:=by unfold lB;decide
def kg (w:World) (M:Mo) (e:Ending) (w':World):Prop:=∃p q,e=.returned (.tuple #[.pointer (some ⟨p,0,none⟩),.pointer (some ⟨q,0,none⟩)])/\Lv w w' [.d p M,.r q M]
def Dl {A:Option Addr} {n cap bb off:Nat} {xs:List bS} (w:World) (hI:mA w A n bb off xs) (hG:Gd w) (hn:n<=40) (hsm:∀x∈xs,x.p.length<=400/\x.text.length<=8000) :
 qC 10 #[.slice A n cap] w fun e w'=>kg w (cN xs) e w':=by
 have H:=hid hI;have HG:=hid hG;have K0:=hid hI.len;have HSM:=hid hsm;have C1:=hid (ll (Lv.nil w) 262144 (by omega) (by omega));clear hI hG hsm;go_enter Tryz.func10,Tryz.ntmps10
 go_wp2_with fail
 refine C1.o.mono ?_;rintro e1 w1 ⟨p,rfl,pp⟩;have C2:=hid (jf pp 262144 (by omega) (by omega));clear pp C1;go_wp2_with fail
 refine C2.o.mono ?_;rintro e2 w2 ⟨q,rfl,zk⟩;have L2:Hid (Lv w w2 [.d p (cN []),.r q (cN [])]):=zk.swap;clear zk C2;go_wp2;go_loopw [7] (fun v7 wr=>∃k:Nat,v7=.int .i64 (k:Int)/\k<=n/\Hid (Lv w wr [.d p (cN (xs.take k)),.r q (cN (xs.take k))])) (fun v7 _=>n - (intOf v7).toNat)
 case atStart=>exact ⟨0,rfl,by omega,by show Lv _ _ _;rw [List.take_zero];exact L2.o⟩
 obtain ⟨k,rfl,hk,J1⟩:=hrel;by_cases d8:k < n
 .
  have hA:=(H.o.src (by omega)).1;subst hA;have oo:=put_mem (xs:=xs) (k:=k) (by rw [K0.o];exact d8);have HX:=hid ((H.o.at_ k d8).on J1.o.bl);have L0:=hid (H.o.ok _ oo);obtain ⟨O8,mj⟩:=HSM.o _ oo;have WZ:Hid ((cN (xs.take k)).since.length<=40*202):=by
   have h1:=Kl (xs.take k);rw [List.length_take] at h1;show _<=_;have:min k xs.length*202<=40*202:=Nat.mul_le_mul_right _ (by omega)
   omega
  have HN:Hid (cN (xs.take (k+1))=iN (cN (xs.take k)) (xs.getD k put0)):=by
   show _=_
   rw [List.take_succ_eq_append_getElem (by rw [K0.o];exact d8),Ji,List.getD,List.getElem?_eq_getElem (by rw [K0.o];exact d8)];rfl
  obtain ⟨x,hx⟩:=qY (xs.getD k put0);rw [hx] at HX L0 HN O8 mj;obtain ⟨kd,P,T,lg,tm⟩:=x;dsimp only at O8 mj;have G5:=hid O8;have qy:=hid mj;obtain ⟨N,tu⟩:=qX (iw ⟨kd,P,T,lg,tm⟩);obtain ⟨s,HS⟩:∃s:Nat,Hid (T.length=s):=⟨_,rfl⟩;obtain ⟨D,JX⟩:=qX (wP ⟨kd,P,T,lg,tm⟩);have nh:Hid (D.length<=6000):=by show _<=_;rw [<-JX.o];exact dm _
  have HDD:Hid (pT T N=D):=by show _=_;rw [<-JX.o,<-tu.o];unfold wP;rfl
  have mo:Hid (N=if s=0 then 0 else min lg.toNat 6000):=by show _=_;rw [<-tu.o,<-HS.o];rfl
  obtain ⟨M0,HM0⟩:=qX (cN (xs.take k));obtain ⟨M9,yb⟩:=qX (cN (xs.take (k+1)));rw [HM0.o] at J1 WZ HN;rw [yb.o] at HN;have ni:(k:Int) < (n:Int):=by omega
  have h0:(0:Int)<=(k:Int):=by omega
  have w1i:IntKind.i64.wrap ((k:Int)+1)=(k:Int)+1:=aM _ (by omega) (by omega);obtain ⟨W3,C8⟩:=qY ((wr.alloc (.cells #[.int .i64 0,.string ⟨#[]⟩,.string ⟨#[]⟩,.int .i64 0,.int .i64 0] 89)).setRow wr.heap.size #[.int .i64 kd,kS P,kS T,.int .i64 lg,.int .i64 tm]);have FZ:Hid (Has (wr.alloc (.cells #[.int .i64 0,.string ⟨#[]⟩,.string ⟨#[]⟩,.int .i64 0,.int .i64 0] 89)) wr.heap.size 89 #[.int .i64 0,.string ⟨#[]⟩,.string ⟨#[]⟩,.int .i64 0,.int .i64 0]):=Has.fresh _ _ _;have b3:qW wr W3:=C8▸(qB.alloc qN _).rowK qN _;have F3:Has W3 wr.heap.size 89 #[.int .i64 kd,kS P,kS T,.int .i64 lg,.int .i64 tm]:=by rw [<-C8];exact FZ.o.row
  have L3:Hid (Lv w W3 [.d p M0,.r q M0,.h wr.heap.size 89 #[.int .i64 kd,kS P,kS T,.int .i64 lg,.int .i64 tm]]) :=
   (J1.o.push (y:=.h wr.heap.size 89 #[.int .i64 kd,kS P,kS T,.int .i64 lg,.int .i64 tm]) (own:=fun g=>g=wr.heap.size) ⟨⟨fun _ k=>k,rfl,F3⟩,Fi⟩ (fun g k=>by rw [k];exact Nat.le_refl _) b3).back
  have c1:W3.cell? ⟨wr.heap.size,1,none⟩=some (kS P):=F3.at_ 1;have CW:Hid (qC 36 #[kS P] W3 fun e w'=>Lf W3 P e w'):=Uy P W3 (by omega);clear b3 F3 hx oo;go_wp2_with (first
   | (refine aT (by rfl) 89 (.tmp 28) rfl bb (off+k*5) rfl #[.int .i64 kd,kS P,kS T,.int .i64 lg,.int .i64 tm] HX.o.load ?_)
   | (refine wpList_store_row rfl 89 (.tmp 8) (.tmp 29) rfl wr.heap.size #[.int .i64 kd,kS P,kS T,.int .i64 lg,.int .i64 tm] rfl rfl 89 _ FZ.o (by kernel_rfl) rfl (by simp [Value.oneCell']) ?_;rw [C8]))
  refine CW.o.mono ?_;rintro e3 w4 ⟨A4,c4,rfl,XC,x8⟩;obtain ⟨l,HL⟩:=qX (waysL P);have DB:Hid (∀y∈l,y.length<=400):=fun y hy=>by have:=Fq P y (by rw [HL.o];exact hy);omega
  have J7:Hid (l.length<=201):=by have:=zG P;rw [HL.o] at this;exact this
  have vq:Hid (0 < l.length):=by show _ < _;rw [<-HL.o];unfold waysL;rw [List.length_append,List.length_singleton];omega
  rw [HL.o] at XC;rw [HL.o];have S4:=hid XC;have L4:=hid (L3.o.on x8);obtain ⟨m,HM⟩:=qX (l.length);rw [HM.o] at S4 J7 vq ⊢;obtain ⟨g4,c5,TA,r8,_⟩:=pE S4.o (by rw [HM.o];exact vq.o);rw [HM.o] at TA;injection TA with TA TC yc;clear TC yc r8;subst TA;clear XC x8 c1 CW FZ C8 HX J1 L3;obtain ⟨wA,rfl⟩:∃wA,wA=wr:=⟨_,rfl⟩;obtain ⟨b,hb⟩:=qY (wA.heap.size);rw [hb] at L4 ⊢;clear hb;have zo:=J7.o;have hm0:=vq.o;have FW:Hid (∀W,StrR W3.heap.size W (.slice (some ⟨g4,0,none⟩) m c4) l->∀j,(hj:j < m)->W.cell? ⟨g4,j,none⟩=some (kS (l[j]'(by rw [HM.o];exact hj)))):=fun W hW j hj=>by
   obtain ⟨g',c',e,_,hc⟩:=pE hW (by rw [HM.o];omega);injection e with e1 _ _;injection e1 with e1;injection e1 with e1 _ _;subst e1;exact hc j (by rw [HM.o];exact hj)
  go_wp2;go_loopw [10] (fun DO PP=>∃j:Nat,DO=.int .i64 (j:Int)/\j+1<=m/\Hid (StrR W3.heap.size PP (.slice (some ⟨g4,0,none⟩) m c4) l)/\Hid (Lv w PP [.d p (eN M0 (l.take j)),.r q (eN M0 (l.take j)),.h b 89 #[.int .i64 kd,kS P,kS T,.int .i64 lg,.int .i64 tm]])) (fun DO _=>m - (intOf DO).toNat)
  case atStart=>exact ⟨0,rfl,by omega,S4.o,by show Lv _ _ _;rw [List.take_zero];exact L4.o⟩
  obtain ⟨j,rfl,hj,K1,K2⟩:=hrel;by_cases JH:j+1 < m
  .
   have XD:j < m:=by omega
   have hjl2:j < l.length:=by rw [HM.o];exact XD
   have c6:=FW.o _ K1.o j XD;have hy:=DB.o _ (List.getElem_mem hjl2);have HY:Hid (eN M0 (l.take (j+1))=(bL (eN M0 (l.take j)) (.mkdir l[j])).2):=by show _=_;rw [List.take_succ_eq_append_getElem hjl2,Le]
   have EQ:Hid (∀W,StrR W3.heap.size W (.slice (some ⟨g4,0,none⟩) m c4) l->W.cell? ⟨g4,j,none⟩=some (kS l[j])):=fun W hW=>FW.o W hW j XD
   have JQ:(eN M0 (l.take j)).since.length+1<=100000:=by
    have h1:=pX (l.take j) M0;rw [List.length_take] at h1;have:=WZ.o;omega
   generalize l[j]=y at c6 hy HY EQ;obtain ⟨K,HK⟩:=qX (eN M0 (l.take j));rw [HK.o] at K2 HY JQ;have CM:=hid (wR K2.o HG.o y (by omega) JQ);have jlt:(j:Int)+1 < (m:Int):=by omega
   have j0:(0:Int)<=(j:Int):=by omega
   have jlt2:(j:Int) < (m:Int):=by omega
   have w1j:IntKind.i64.wrap ((j:Int)+1)=(j:Int)+1:=aM _ (by omega) (by omega);have HSJ:=hid JQ;have IQ:=hid hy;clear JQ hy;go_wp2_with (go_at_call 37;refine CM.o.mono ?_;rintro e4 w5 ⟨rfl,V2,qh⟩;have L5:=hid V2;have S5:=hid (K1.o.gx qh);have c7:=EQ.o _ S5.o;clear V2 qh)
   refine (Mk L5.o.swap y (by have:=IQ.o;omega) HSJ.o).mono ?_;rintro e5 w6 ⟨rfl,EI,hx6⟩;have L6:=hid EI.swap;have S6:=hid (S5.o.gx hx6);clear EI hx6 c7;go_wp2;go_roundw
   case rel=>exact ⟨j+1,by go_num,by omega,S6.o,by show Lv _ _ _;rw [HY.o];exact L6.o⟩
   case measure=>simp [intOf];omega
  have hje:j+1=m:=by omega
  have HD:Hid (l.take j=l.dropLast):=by show _=_;rw [List.dropLast_eq_take,HM.o,show m - 1=j by omega]
  have jge:¬(j:Int)+1 < (m:Int):=by omega
  have w1j:IntKind.i64.wrap ((j:Int)+1)=(j:Int)+1:=aM _ (by omega) (by omega);obtain ⟨K,HK⟩:=qX (eN M0 l.dropLast);have L7:Hid (Lv w wr [.d p K,.r q K,.h b 89 #[.int .i64 kd,kS P,kS T,.int .i64 lg,.int .i64 tm]]):=by rw [<-HK.o,<-HD.o];exact K2.o
  have rp:Hid (K.since.length+1<=100000):=by
   have h1:=pX l.dropLast M0;rw [HK.o,List.length_dropLast] at h1;have:=WZ.o;have:=HM.o;show _<=_;omega
  have XG:Hid (kd=1->(bL K (.write P D tm)).2=M9):=fun e=>by rw [HN.o];unfold iN sS;rw [HL.o,HK.o];dsimp only;rw [JX.o,if_pos e]
  have XH:Hid (¬kd=1->kd=2->(bL K (.mkdir P)).2=M9):=fun e1 e=>by rw [HN.o];unfold iN sS;rw [HL.o,HK.o];dsimp only;rw [if_neg e1,if_pos e]
  have XI:Hid (¬kd=1->¬kd=2->kd=3->(bL K (.link P T tm)).2=M9):=fun e1 e2 e=>by rw [HN.o];unfold iN sS;rw [HL.o,HK.o];dsimp only;rw [if_neg e1,if_neg e2,if_pos e]
  have XJ:Hid (¬kd=1->¬kd=2->¬kd=3->K=M9):=fun e1 e2 e3=>by rw [HN.o];unfold iN sS;rw [HL.o,HK.o];dsimp only;rw [if_neg e1,if_neg e2,if_neg e3]
  obtain ⟨W7,rfl⟩:∃W7,W7=wr:=⟨_,rfl⟩;have F7:Hid (Has W7 b 89 #[.int .i64 kd,kS P,kS T,.int .i64 lg,.int .i64 tm]):=L7.o.hasH (by simp);clear K1 K2 FW S4 L4;go_wp2;have HTX:Hid ((ba T).size=s):=by show _=_;rw [aD];exact HS.o
  go_loopw [11,12] (fun IM xf PP=>∃j:Nat,j<=N/\xf=.int .i64 (j:Int)/\Hid (Fresh W7.heap.size PP IM (pT T j))/\Hid (qW W7 PP)) (fun _ xf _=>N - (intOf xf).toNat)
  case atStart=>exact ⟨0,by omega,rfl,oG _ _,Below.refl _ _⟩
  obtain ⟨j,hj,rfl,K1,K2⟩:=hrel;have J2:=hid (F7.o.kept K2.o F7.o.inside);have c2:wr.cell? ⟨b,2,none⟩=some (kS T):=J2.o.at_ 2;have c3:wr.cell? ⟨b,3,none⟩=some (.int .i64 lg):=J2.o.at_ 3;have mj:((ba T).size:Int)=(s:Int):=by rw [HTX.o]
  by_cases d8:j < N
  .
   have O8:(0:Int) < (s:Int):=by have JY:=mo.o;split at JY<;>omega
   have hkL:(j:Int) < lg:=by have JY:=mo.o;rw [if_neg (by omega)] at JY;omega
   have SI:(j:Int) < 6000:=by have JY:=mo.o;rw [if_neg (by omega)] at JY;omega
   have w1:IntKind.i64.wrap ((j:Int)+1)=(j:Int)+1:=aM _ (by omega) (by omega);obtain ⟨i,HJ⟩:=qX (j % s);have hi:i < s:=by rw [<-HJ.o];exact Nat.mod_lt _ (by omega)
   obtain ⟨z,HZ⟩:=qX (at8 T i);obtain ⟨v5,w5,i6,J8,z6⟩:=Fb wr.drew W7.heap.size u11 (pT T j) (mN K1.o qB.drew) (by rw [vB];omega) (by show _<=wr.heap.size;exact K2.o.size) z;have zc:=Od T j;rw [HS.o,HJ.o,HZ.o] at zc;rw [<-zc] at J8;have R5:=hid i6;have F5:=hid J8;have r2:(j:Int).tmod (s:Int)=(i:Int):=by rw [<-HJ.o];exact Yq j s
   have r3:¬(s:Int)=0:=by omega
   have hixj:∀w,(Instr.index 9 (kS T) (.int .i64 (i:Int))).run Tryz.prog w=.ok (.int .u8 (b8 (at8 T i))) w:=fun w=>by
    have:=Eg (ba T) i (by rw [aD,HS.o];exact hi) w;rw [aQ] at this;exact this
   rw [HZ.o] at hixj;have J2d:Hid (Has wr.drew b 89 #[.int .i64 kd,kS P,kS T,.int .i64 lg,.int .i64 tm]):=J2.o;have J3d:=hid K2.o.drew;obtain ⟨bz,HBZ⟩:=qX (b8 z);rw [HBZ.o] at hixj R5;have r4:¬s=0:=by omega
   have H8:Hid (qW W7 w5):=J3d.o.trans z6;have HJ5:Hid (Has w5 b 89 #[.int .i64 kd,kS P,kS T,.int .i64 lg,.int .i64 tm]):=F7.o.kept H8.o F7.o.inside;clear i6 J8 z6 zc;go_wp2;refine qG (S:=fun W=>W.cell? ⟨b,2,none⟩=some (kS T)) (by kernel_rfl) (J2d.o.at_ 2) (fun hS=>?_);generalize wr.drew=w3 at *;refine aG 0 ?_
   iterate 9
    refine qT rfl (by kernel_rfl) ‹_› (fun w a8=>by go_simp;with_reducible rfl) ?_;simp only [Act.put,aB,aA,aC,Nat.reduceAdd]
   refine aE ?_;refine qD 9 rfl (by kernel_rfl) fun K hK=>?_
   go_simp;refine hK.o _ _ ((qB.alloc qN _).cell (p:=⟨b,2,none⟩) J2d.o.inside |>.trans (J2d.o.at_ 2)) (fun hS=>?_);clear hK K;refine qD 10 rfl (by kernel_rfl) fun K hK=>?_
   refine aH (by rfl) (.tmp 69) (.tmp 78) 79 79 rfl u11 (.slice (some ⟨w3.heap.size,0,none⟩) 1 1) rfl rfl R5.o ?_;refine hK.o _ _ (HJ5.o.at_ 2) (fun hS=>?_);clear hK K;refine qK 11 rfl (by kernel_rfl) ‹_› (fun w a8=>by go_simp;with_reducible rfl) ?_;simp only [Act.put,aB,aA,aC];refine qM (by kernel_rfl) ?_;go_wp2;go_roundw
   case rel=>exact ⟨j+1,by omega,by go_num,F5.o,H8.o⟩
   case measure=>simp [intOf];omega
  obtain rfl:j=N:=by omega
  have hend:¬(j:Int) < lg∨((j:Int) < lg/\¬(j:Int) < 6000)∨((j:Int) < lg/\(j:Int) < 6000/\¬(0:Int) < (s:Int)):=by have JY:=mo.o;split at JY<;>omega
  have K3:Hid (Fresh W7.heap.size wr u11 D):=by rw [<-HDD.o];exact K1.o
  have L9:=hid (((L7.o.srow K3.o qN K2.o Kb)).back);obtain ⟨A6,c6,hfm⟩:∃A6 c6,u11=.slice A6 D.length c6:=by
   have h:=K3.o;rcases h.2 with ⟨h1,h2⟩ | ⟨g,c,cur,h1,_⟩
   . exact ⟨none,0,by rw [h1,h2]⟩
   exact ⟨some ⟨g,0,none⟩,c,h1⟩
  subst hfm;have BZ:=mL K3.o (Nat.lt_of_lt_of_le HG.o.pos (Nat.le_trans L7.o.bl.size K2.o.size));have c0:wr.cell? ⟨b,0,none⟩=some (.int .i64 kd):=J2.o.at_ 0;have c1:wr.cell? ⟨b,1,none⟩=some (kS P):=J2.o.at_ 1;have c4:wr.cell? ⟨b,4,none⟩=some (.int .i64 tm):=J2.o.at_ 4;clear K1;rcases hend with h1 | ⟨h0,h1⟩ | ⟨h0,h1,h2⟩
  .
   skip
   by_cases n1:kd=1
   .
    have q1:(kd == 1)=true:=by simpa using n1
    have HE:=hid (XG.o n1);go_wp2_with (go_at_call 39;refine (Dk L9.o HG.o P D tm (by have:=G5.o;omega) (by have:=nh.o;omega) (by have:=rp.o;omega)).mono ?_;rintro e4 r5 ⟨rfl,s9,sp⟩;have sq:=hid s9;have mm:=hid (s9.hasH (b:=b) (t:=89) (cs:=#[.int .i64 kd,kS P,kS T,.int .i64 lg,.int .i64 tm]) (by simp));have d1:r5.cell? ⟨b,1,none⟩=some (kS P):=mm.o.at_ 1;have d4:r5.cell? ⟨b,4,none⟩=some (.int .i64 tm):=mm.o.at_ 4;have sr:=mL (B:=0) (w:=r5) (v:=.slice A6 D.length c6) (xs:=D) (s9.hasS (by simp)) (Nat.lt_of_lt_of_le HG.o.pos s9.bl.size);clear s9 sp)
    refine (Vz sq.o.swap P D tm (by have:=G5.o;omega) (by have:=nh.o;omega) (by have:=rp.o;omega)).mono ?_;rintro e5 pw ⟨rfl,V2,qh⟩;have oh:=hid (Lv.drop3 (Lv.drop3 V2.swap));clear V2 qh d1 d4 sr;go_wp2;go_roundw
    case rel=>exact ⟨k+1,by go_num,by omega,by show Lv _ _ _;rw [yb.o,<-HE.o];exact oh.o⟩
    case measure=>simp [intOf];omega
   have q1:(kd == 1)=false:=by simpa using n1
   by_cases n2:kd=2
   .
    have q2:(kd == 2)=true:=by simpa using n2
    have HE:=hid (XH.o n1 n2);go_wp2_with (go_at_call 37;refine (wR L9.o HG.o P (by have:=G5.o;omega) (by have:=rp.o;omega)).mono ?_;rintro e4 r5 ⟨rfl,s9,sp⟩;have sq:=hid s9;have mm:=hid (s9.hasH (b:=b) (t:=89) (cs:=#[.int .i64 kd,kS P,kS T,.int .i64 lg,.int .i64 tm]) (by simp));have d1:r5.cell? ⟨b,1,none⟩=some (kS P):=mm.o.at_ 1;clear s9 sp)
    refine (Mk sq.o.swap P (by have:=G5.o;omega) (by have:=rp.o;omega)).mono ?_;rintro e5 pw ⟨rfl,V2,qh⟩;have oh:=hid (Lv.drop3 (Lv.drop3 V2.swap));clear V2 qh d1;go_wp2;go_roundw
    case rel=>exact ⟨k+1,by go_num,by omega,by show Lv _ _ _;rw [yb.o,<-HE.o];exact oh.o⟩
    case measure=>simp [intOf];omega
   have q2:(kd == 2)=false:=by simpa using n2
   by_cases n3:kd=3
   .
    have q3:(kd == 3)=true:=by simpa using n3
    have HE:=hid (XI.o n1 n2 n3);go_wp2_with (go_at_call 40;refine (Kc L9.o HG.o P T tm (by have:=G5.o;omega) (by have:=qy.o;omega) (by have:=rp.o;omega)).mono ?_;rintro e4 r5 ⟨rfl,s9,sp⟩;have sq:=hid s9;have mm:=hid (s9.hasH (b:=b) (t:=89) (cs:=#[.int .i64 kd,kS P,kS T,.int .i64 lg,.int .i64 tm]) (by simp));have d1:r5.cell? ⟨b,1,none⟩=some (kS P):=mm.o.at_ 1;have d2:r5.cell? ⟨b,2,none⟩=some (kS T):=mm.o.at_ 2;have d4:r5.cell? ⟨b,4,none⟩=some (.int .i64 tm):=mm.o.at_ 4;clear s9 sp)
    refine (Wq sq.o.swap P T tm (by have:=G5.o;omega) (by have:=qy.o;omega) (by have:=rp.o;omega)).mono ?_;rintro e5 pw ⟨rfl,V2,qh⟩;have oh:=hid (Lv.drop3 (Lv.drop3 V2.swap));clear V2 qh d1 d2 d4;go_wp2;go_roundw
    case rel=>exact ⟨k+1,by go_num,by omega,by show Lv _ _ _;rw [yb.o,<-HE.o];exact oh.o⟩
    case measure=>simp [intOf];omega
   have q3:(kd == 3)=false:=by simpa using n3
   have HE:=hid (XJ.o n1 n2 n3);have oh:=hid (Lv.drop3 (Lv.drop3 L9.o));go_wp2;go_roundw
   case rel=>exact ⟨k+1,by go_num,by omega,by show Lv _ _ _;rw [yb.o,<-HE.o];exact oh.o⟩
   case measure=>simp [intOf];omega
  .
   skip
   by_cases n1:kd=1
   .
    have q1:(kd == 1)=true:=by simpa using n1
    have HE:=hid (XG.o n1);go_wp2_with (go_at_call 39;refine (Dk L9.o HG.o P D tm (by have:=G5.o;omega) (by have:=nh.o;omega) (by have:=rp.o;omega)).mono ?_;rintro e4 r5 ⟨rfl,s9,sp⟩;have sq:=hid s9;have mm:=hid (s9.hasH (b:=b) (t:=89) (cs:=#[.int .i64 kd,kS P,kS T,.int .i64 lg,.int .i64 tm]) (by simp));have d1:r5.cell? ⟨b,1,none⟩=some (kS P):=mm.o.at_ 1;have d4:r5.cell? ⟨b,4,none⟩=some (.int .i64 tm):=mm.o.at_ 4;have sr:=mL (B:=0) (w:=r5) (v:=.slice A6 D.length c6) (xs:=D) (s9.hasS (by simp)) (Nat.lt_of_lt_of_le HG.o.pos s9.bl.size);clear s9 sp)
    refine (Vz sq.o.swap P D tm (by have:=G5.o;omega) (by have:=nh.o;omega) (by have:=rp.o;omega)).mono ?_;rintro e5 pw ⟨rfl,V2,qh⟩;have oh:=hid (Lv.drop3 (Lv.drop3 V2.swap));clear V2 qh d1 d4 sr;go_wp2;go_roundw
    case rel=>exact ⟨k+1,by go_num,by omega,by show Lv _ _ _;rw [yb.o,<-HE.o];exact oh.o⟩
    case measure=>simp [intOf];omega
   have q1:(kd == 1)=false:=by simpa using n1
   by_cases n2:kd=2
   .
    have q2:(kd == 2)=true:=by simpa using n2
    have HE:=hid (XH.o n1 n2);go_wp2_with (go_at_call 37;refine (wR L9.o HG.o P (by have:=G5.o;omega) (by have:=rp.o;omega)).mono ?_;rintro e4 r5 ⟨rfl,s9,sp⟩;have sq:=hid s9;have mm:=hid (s9.hasH (b:=b) (t:=89) (cs:=#[.int .i64 kd,kS P,kS T,.int .i64 lg,.int .i64 tm]) (by simp));have d1:r5.cell? ⟨b,1,none⟩=some (kS P):=mm.o.at_ 1;clear s9 sp)
    refine (Mk sq.o.swap P (by have:=G5.o;omega) (by have:=rp.o;omega)).mono ?_;rintro e5 pw ⟨rfl,V2,qh⟩;have oh:=hid (Lv.drop3 (Lv.drop3 V2.swap));clear V2 qh d1;go_wp2;go_roundw
    case rel=>exact ⟨k+1,by go_num,by omega,by show Lv _ _ _;rw [yb.o,<-HE.o];exact oh.o⟩
    case measure=>simp [intOf];omega
   have q2:(kd == 2)=false:=by simpa using n2
   by_cases n3:kd=3
   .
    have q3:(kd == 3)=true:=by simpa using n3
    have HE:=hid (XI.o n1 n2 n3);go_wp2_with (go_at_call 40;refine (Kc L9.o HG.o P T tm (by have:=G5.o;omega) (by have:=qy.o;omega) (by have:=rp.o;omega)).mono ?_;rintro e4 r5 ⟨rfl,s9,sp⟩;have sq:=hid s9;have mm:=hid (s9.hasH (b:=b) (t:=89) (cs:=#[.int .i64 kd,kS P,kS T,.int .i64 lg,.int .i64 tm]) (by simp));have d1:r5.cell? ⟨b,1,none⟩=some (kS P):=mm.o.at_ 1;have d2:r5.cell? ⟨b,2,none⟩=some (kS T):=mm.o.at_ 2;have d4:r5.cell? ⟨b,4,none⟩=some (.int .i64 tm):=mm.o.at_ 4;clear s9 sp)
    refine (Wq sq.o.swap P T tm (by have:=G5.o;omega) (by have:=qy.o;omega) (by have:=rp.o;omega)).mono ?_;rintro e5 pw ⟨rfl,V2,qh⟩;have oh:=hid (Lv.drop3 (Lv.drop3 V2.swap));clear V2 qh d1 d2 d4;go_wp2;go_roundw
    case rel=>exact ⟨k+1,by go_num,by omega,by show Lv _ _ _;rw [yb.o,<-HE.o];exact oh.o⟩
    case measure=>simp [intOf];omega
   have q3:(kd == 3)=false:=by simpa using n3
   have HE:=hid (XJ.o n1 n2 n3);have oh:=hid (Lv.drop3 (Lv.drop3 L9.o));go_wp2;go_roundw
   case rel=>exact ⟨k+1,by go_num,by omega,by show Lv _ _ _;rw [yb.o,<-HE.o];exact oh.o⟩
   case measure=>simp [intOf];omega
  skip
  by_cases n1:kd=1
  .
   have q1:(kd == 1)=true:=by simpa using n1
   have HE:=hid (XG.o n1);go_wp2_with (go_at_call 39;refine (Dk L9.o HG.o P D tm (by have:=G5.o;omega) (by have:=nh.o;omega) (by have:=rp.o;omega)).mono ?_;rintro e4 r5 ⟨rfl,s9,sp⟩;have sq:=hid s9;have mm:=hid (s9.hasH (b:=b) (t:=89) (cs:=#[.int .i64 kd,kS P,kS T,.int .i64 lg,.int .i64 tm]) (by simp));have d1:r5.cell? ⟨b,1,none⟩=some (kS P):=mm.o.at_ 1;have d4:r5.cell? ⟨b,4,none⟩=some (.int .i64 tm):=mm.o.at_ 4;have sr:=mL (B:=0) (w:=r5) (v:=.slice A6 D.length c6) (xs:=D) (s9.hasS (by simp)) (Nat.lt_of_lt_of_le HG.o.pos s9.bl.size);clear s9 sp)
   refine (Vz sq.o.swap P D tm (by have:=G5.o;omega) (by have:=nh.o;omega) (by have:=rp.o;omega)).mono ?_;rintro e5 pw ⟨rfl,V2,qh⟩;have oh:=hid (Lv.drop3 (Lv.drop3 V2.swap));clear V2 qh d1 d4 sr;go_wp2;go_roundw
   case rel=>exact ⟨k+1,by go_num,by omega,by show Lv _ _ _;rw [yb.o,<-HE.o];exact oh.o⟩
   case measure=>simp [intOf];omega
  have q1:(kd == 1)=false:=by simpa using n1
  by_cases n2:kd=2
  .
   have q2:(kd == 2)=true:=by simpa using n2
   have HE:=hid (XH.o n1 n2);go_wp2_with (go_at_call 37;refine (wR L9.o HG.o P (by have:=G5.o;omega) (by have:=rp.o;omega)).mono ?_;rintro e4 r5 ⟨rfl,s9,sp⟩;have sq:=hid s9;have mm:=hid (s9.hasH (b:=b) (t:=89) (cs:=#[.int .i64 kd,kS P,kS T,.int .i64 lg,.int .i64 tm]) (by simp));have d1:r5.cell? ⟨b,1,none⟩=some (kS P):=mm.o.at_ 1;clear s9 sp)
   refine (Mk sq.o.swap P (by have:=G5.o;omega) (by have:=rp.o;omega)).mono ?_;rintro e5 pw ⟨rfl,V2,qh⟩;have oh:=hid (Lv.drop3 (Lv.drop3 V2.swap));clear V2 qh d1;go_wp2;go_roundw
   case rel=>exact ⟨k+1,by go_num,by omega,by show Lv _ _ _;rw [yb.o,<-HE.o];exact oh.o⟩
   case measure=>simp [intOf];omega
  have q2:(kd == 2)=false:=by simpa using n2
  by_cases n3:kd=3
  .
   have q3:(kd == 3)=true:=by simpa using n3
   have HE:=hid (XI.o n1 n2 n3);go_wp2_with (go_at_call 40;refine (Kc L9.o HG.o P T tm (by have:=G5.o;omega) (by have:=qy.o;omega) (by have:=rp.o;omega)).mono ?_;rintro e4 r5 ⟨rfl,s9,sp⟩;have sq:=hid s9;have mm:=hid (s9.hasH (b:=b) (t:=89) (cs:=#[.int .i64 kd,kS P,kS T,.int .i64 lg,.int .i64 tm]) (by simp));have d1:r5.cell? ⟨b,1,none⟩=some (kS P):=mm.o.at_ 1;have d2:r5.cell? ⟨b,2,none⟩=some (kS T):=mm.o.at_ 2;have d4:r5.cell? ⟨b,4,none⟩=some (.int .i64 tm):=mm.o.at_ 4;clear s9 sp)
   refine (Wq sq.o.swap P T tm (by have:=G5.o;omega) (by have:=qy.o;omega) (by have:=rp.o;omega)).mono ?_;rintro e5 pw ⟨rfl,V2,qh⟩;have oh:=hid (Lv.drop3 (Lv.drop3 V2.swap));clear V2 qh d1 d2 d4;go_wp2;go_roundw
   case rel=>exact ⟨k+1,by go_num,by omega,by show Lv _ _ _;rw [yb.o,<-HE.o];exact oh.o⟩
   case measure=>simp [intOf];omega
  have q3:(kd == 3)=false:=by simpa using n3
  have HE:=hid (XJ.o n1 n2 n3);have oh:=hid (Lv.drop3 (Lv.drop3 L9.o));go_wp2;go_roundw
  case rel=>exact ⟨k+1,by go_num,by omega,by show Lv _ _ _;rw [yb.o,<-HE.o];exact oh.o⟩
  case measure=>simp [intOf];omega
 obtain rfl:k=n:=by omega
 have HE:Hid (xs.take k=xs):=by show _=_;rw [List.take_of_length_le (by rw [K0.o];omega)]
 go_wp2;go_ret2;exact ⟨p,q,rfl,by have:=J1.o;rw [HE.o] at this;exact this⟩
end Go.Proofs.YtahkcemdbfjilaaGreatDoor
