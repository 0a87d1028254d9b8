/- Texts. Conditions: as said. -/
import Derived.Test.YtahkcemdbfjilaaGreatDoorFj00
import Derived.Laws.CopyOwn
import Derived.Test.YtahkcemdbfjilaaGreatDoorFj05
import Derived.Deep.RegionLaw
import Derived.Great.BuildSlice
set_option linter.all false
set_option maxRecDepth 100000
set_option maxHeartbeats 32000000
namespace Go.Proofs.YtahkcemdbfjilaaGreatDoor.Sha
open Go.RowKit
structure SS where
 ws:List (BitVec 32)
 ps:List UInt8
 n:Nat
def SS.Ok (s:SS):Prop:=s.ws.length=8/\s.ps.length=64
def fA (x:BitVec 32):Value:=.int .u32 (u x)
def V8 (x:UInt8):Value:=.int .u8 (b8 x)
def SS.cells (s:SS):List Value:=.bool true :: (s.ws.map fA++(s.ps.map V8++[.int .i64 (s.n:Int)]))
def mH (w:World) (g:Nat) (s:SS):Prop:=Has w g 236 s.cells.toArray
def SS.cells_len (s:SS) (h:s.Ok):s.cells.length=74:=by simp [SS.cells,h.1,h.2]
def wY (l:List UInt8) (r:Nat) (x:UInt8) (h:r < l.length):splice l r [x]=l.set r x:=by
 simp [splice,List.set_eq_take_append_cons_drop,h]
def oP {α:Type} (l:List α) (r:Nat) (x:α) (c:List α) (h:r+1+c.length<=l.length):splice (l.set r x) (r+1) c=splice l r (x :: c):=by
 unfold splice;have e1:(l.set r x).take (r+1)=l.take r++[x]:=by
  rw [List.set_eq_take_append_cons_drop,if_pos (by omega)];rw [List.take_append,List.length_take];simp [Nat.min_eq_left (by omega:r<=l.length),List.take_take]
 have e2:(l.set r x).drop (r+1+c.length)=l.drop (r+(c.length+1)):=by
  rw [List.drop_set,if_pos (by omega)];congr 1;omega
 rw [e1,e2];simp
def Js (l:List UInt8) (r:Nat) (c:List UInt8) (h:r+c.length<=l.length):(splice l r c).length=l.length:=length_splice l r c h
def iD (s:SS) (x:UInt8):SS :=
 if (s.n+1) % 64=0 then ⟨jN s.ws (s.ps.set (s.n % 64) x),s.ps.set (s.n % 64) x,s.n+1⟩ else ⟨s.ws,s.ps.set (s.n % 64) x,s.n+1⟩
def feed (s:SS) (xs:List UInt8):SS:=xs.foldl iD s
def lT (s:SS) (xs ys:List UInt8):feed s (xs++ys)=feed (feed s xs) ys:=by simp [feed,List.foldl_append]
def ca (s:SS) (x:UInt8):(iD s x).n=s.n+1:=by unfold iD;split<;>rfl
def Bz (xs:List UInt8):∀s:SS,(feed s xs).n=s.n+xs.length:=by
 induction xs with
 | nil=>intro s;rfl
 | cons x xs ih=>intro s;show (feed (iD s x) xs).n=_;rw [ih,ca];simp;omega
def vF (l:List (BitVec 32)) (R:S8):(vL l R).length=8:=rfl
def Xa (s:SS) (x:UInt8) (h:s.Ok):(iD s x).Ok:=by
 unfold iD;split
 . exact ⟨vF _ _,by simp [h.2]⟩
 exact ⟨h.1,by simp [h.2]⟩
def yZ (xs:List UInt8):∀s:SS,s.Ok->(feed s xs).Ok:=by
 induction xs with
 | nil=>intro s h;exact h
 | cons x xs ih=>intro s h;exact ih _ (Xa s x h)
def Rr (c:List UInt8):∀s:SS,s.ps.length=64->s.n % 64+c.length < 64->0 < c.length->feed s c=⟨s.ws,splice s.ps (s.n % 64) c,s.n+c.length⟩:=by
 induction c with
 | nil=>intro s _ _ h;simp at h
 | cons x c ih =>
  intro s hp h _;simp only [List.length_cons] at h;have e:iD s x=⟨s.ws,s.ps.set (s.n % 64) x,s.n+1⟩:=by unfold iD;rw [if_neg (by omega)]
  show feed (iD s x) c=_
  rw [e];have hm:(s.n+1) % 64=s.n % 64+1:=by omega
  rcases Nat.eq_zero_or_pos c.length with h0 | h0
  . obtain rfl:=List.eq_nil_of_length_eq_zero h0
    show (⟨s.ws,s.ps.set (s.n % 64) x,s.n+1⟩:SS)=_
    rw [wY _ _ _ (by omega)];rfl
  rw [ih ⟨s.ws,s.ps.set (s.n % 64) x,s.n+1⟩ (by simp [hp]) (by show (s.n+1) % 64+_ < 64;omega) h0];show (⟨s.ws,splice (s.ps.set (s.n % 64) x) ((s.n+1) % 64) c,s.n+1+c.length⟩:SS)=_
  rw [hm,oP _ _ _ _ (by omega)];congr 1
  simp;omega
def zT (c:List UInt8):∀s:SS,s.ps.length=64->s.n % 64+c.length=64->0 < c.length ->
 feed s c=⟨jN s.ws (splice s.ps (s.n % 64) c),splice s.ps (s.n % 64) c,s.n+c.length⟩:=by
 induction c with
 | nil=>intro s _ _ h;simp at h
 | cons x c ih =>
  intro s hp h _;simp only [List.length_cons] at h;show feed (iD s x) c=_
  rcases Nat.eq_zero_or_pos c.length with h0 | h0
  . obtain rfl:=List.eq_nil_of_length_eq_zero h0
    simp only [List.length_nil] at h;have e:iD s x=⟨jN s.ws (s.ps.set (s.n % 64) x),s.ps.set (s.n % 64) x,s.n+1⟩:=by unfold iD;rw [if_pos (by omega)]
    rw [e,wY _ _ _ (by omega)];rfl
  have e:iD s x=⟨s.ws,s.ps.set (s.n % 64) x,s.n+1⟩:=by unfold iD;rw [if_neg (by omega)]
  rw [e];have hm:(s.n+1) % 64=s.n % 64+1:=by omega
  rw [ih ⟨s.ws,s.ps.set (s.n % 64) x,s.n+1⟩ (by simp [hp]) (by show (s.n+1) % 64+_=64;omega) h0];show (⟨jN s.ws (splice (s.ps.set (s.n % 64) x) ((s.n+1) % 64) c),splice (s.ps.set (s.n % 64) x) ((s.n+1) % 64) c,s.n+1+c.length⟩:SS)=_
  rw [hm,oP _ _ _ _ (by omega)];congr 1
  simp;omega
def Cc (s:SS) (h:s.Ok) (r:Nat) (c:List UInt8) (hr:r+c.length<=64):splice s.cells (9+r) (c.map V8)=(SS.mk s.ws (splice s.ps r c) s.n).cells:=by
 obtain ⟨h1,h2⟩:=h;have e1:s.cells=(.bool true :: s.ws.map fA)++(s.ps.map V8++[.int .i64 (s.n:Int)]):=by simp [SS.cells]
 have hl:(Value.bool true :: s.ws.map fA).length=9:=by simp [h1]
 rw [e1];unfold splice;rw [List.take_append,List.drop_append,hl,List.take_of_length_le (by rw [hl];omega),List.drop_of_length_le (by rw [hl];omega)];rw [List.take_append,List.drop_append,List.length_map,h2,List.length_map];rw [show 9+r - 9=r by omega,show r - 64=0 by omega,show 9+r+c.length - 9=r+c.length by omega,show r+c.length - 64=0 by omega];simp [SS.cells,List.map_take,List.map_drop]
def uR (s:SS) (h:s.Ok) (m:Nat):s.cells.toArray.setIfInBounds 73 (.int .i64 (m:Int))=(SS.mk s.ws s.ps m).cells.toArray:=by
 obtain ⟨h1,h2⟩:=h;have e1:s.cells=(.bool true :: (s.ws.map fA++s.ps.map V8))++[.int .i64 (s.n:Int)]:=by simp [SS.cells]
 have hl:(Value.bool true :: (s.ws.map fA++s.ps.map V8)).length=73:=by simp [h1,h2]
 rw [e1,List.setIfInBounds_toArray,List.set_append,if_neg (by rw [hl];omega),hl];simp [SS.cells]
def bT (s:SS) (h:s.Ok) (i:Nat) (hi:i < 8):s.cells.toArray[1+i]? = some (.int .u32 (u (at32 s.ws i))):=by
 obtain ⟨h1,h2⟩:=h;rw [show 1+i=i+1 by omega];simp [SS.cells,List.getElem?_append,h1,hi,fA,at32,List.getD]
def yT (s:SS) (h:s.Ok) (i:Nat) (hi:i < 64):s.cells.toArray[9+i]? = some (.int .u8 (b8 (at8 s.ps i))):=by
 obtain ⟨h1,h2⟩:=h;rw [show 9+i=(8+i)+1 by omega];simp [SS.cells,List.getElem?_append,h1,h2,hi,V8,at8,List.getD]
def kW (s:SS) (h:s.Ok):s.cells.toArray[73]? = some (.int .i64 (s.n:Int)):=by
 obtain ⟨h1,h2⟩:=h;simp [SS.cells,h1,h2]
def cells_one (s:SS):∀v∈s.cells,v.oneCell'=true:=by
 intro v hv;simp only [SS.cells,List.mem_cons,List.mem_append,List.mem_map,List.not_mem_nil,or_false] at hv;rcases hv with rfl | ⟨_,_,rfl⟩ | ⟨_,_,rfl⟩ | rfl<;>rfl
def Gy (s:SS) (h:s.Ok) (ws:List (BitVec 32)) (hw:ws.length=8):splice s.cells 1 (ws.map fA)=(SS.mk ws s.ps s.n).cells:=by
 obtain ⟨h1,h2⟩:=h;simp [SS.cells,splice,hw,h1]
abbrev dG (g:Nat) (w w':World):Prop:=w.grownBy w' (some g)
def dG.refl (g:Nat) (w:World):dG g w w:=⟨rfl,rfl,rfl,Nat.le_refl _,fun _ _ _=>rfl⟩
def dG.trans {g:Nat} {a b c:World} (h:dG g a b) (k:dG g b c):dG g a c :=
 ⟨k.os.trans h.os,k.tape.trans h.tape,k.output.trans h.output,Nat.le_trans h.size k.size,fun i hi hn=>(k.block i (Nat.lt_of_lt_of_le hi h.size) hn).trans (h.block i hi hn)⟩
def dG.of_below {g:Nat} {a b:World} (h:qW a b):dG g a b:=⟨h.os,h.tape,h.output,h.size,fun i hi _=>h.block i hi⟩
def dG.of_row (g:Nat) (a:World) (cs:Array Value):dG g a (a.setRow g cs) :=
 ⟨rfl,rfl,rfl,by simp,fun i _ hn=>setRow_other a g i cs (fun e=>hn (by rw [e]))⟩
def dG.of_set (g i:Nat) (a:World) (v:Value):dG g a (a.setCell ⟨g,i,none⟩ v) :=
 ⟨rfl,rfl,rfl,by simp [World.setCell],fun k _ hn=>Below.heap_setCell a ⟨g,i,none⟩ v k (fun e=>hn (by rw [e]))⟩
def dG.drawn {g:Nat} {a b:World} (h:dG g a b) (n:Nat):dG g a (b.drewN n):=⟨h.os,h.tape,h.output,h.size,h.block⟩
def Has.sets {g:Nat} {t:TypeId} (c:List Value):∀(o:Nat) (w:World) (cur:List Value),Has w g t cur.toArray->o+c.length<=cur.length->Has (w.setCells g o c) g t (splice cur o c).toArray:=by
 induction c with
 | nil=>intro o w cur h _;simpa [splice,World.setCells] using h
 | cons x c ih =>
  intro o w cur h hl;simp only [List.length_cons] at hl;rw [<-oP cur o x c (by omega)];have h1:=Has.put h o x;rw [List.setIfInBounds_toArray] at h1;exact ih (o+1) _ _ h1 (by simp;omega)
def dG.of_sets (g:Nat) (c:List Value):∀(o:Nat) (w:World),dG g w (w.setCells g o c):=by
 induction c with
 | nil=>intro o w;exact dG.refl g w
 | cons x c ih=>intro o w;exact (dG.of_set g o w x).trans (ih (o+1) _)
def Has.grw {w w':World} {g h:Nat} {t:TypeId} {cs:Array Value} (k:Has w h t cs) (hg:dG g w w') (hn:h≠g):Has w' h t cs :=
 (hg.block h k.inside (fun e=>hn (Option.some.inj e))).trans k
def Bl {P:Program} {ops:Array Oper} {o:Oper} {a:Act} {w:World} {K:Act->World->Prop} {Q:Exit->Act->World->Prop} {E:Prop} (O6:o.guard=none) (d s:Operand) (dT sT:TypeId)
 (ho:o.op=.call { callee:=.builtin .copy,args:=#[d,s],argTypes:=#[dT,sT] }) (elem:TypeId) (hu:P.underlying dT=some (.slice elem)) (p9:(P.info? elem).map (·.size)=some 1)
 (g off dLen dCap:Nat) (ad:Addr) (sLen sCap:Nat) (hd:a.eval d=.slice (some ⟨g,off,none⟩) dLen dCap) (hs:a.eval s=.slice (some ad) sLen sCap)
 (cur:List Value) (t:TypeId) (hg:w.heap[g]? = some (.cells cur.toArray t (0,0))) (cs:List Value) (hn:cs.length=Nat.min sLen dLen)
 (V5:∀j v,cs[j]? = some v->w.cell? (ad.add j)=some v) (hfit:off+cs.length<=cur.length) (h1:∀v∈cs,v.oneCell'=true)
 (h:K (a.put o.dst (goInt cs.length)) (w.setRow g (splice cur off cs).toArray)) :
 if Region.wanted o (yielded ops a.tmps)=true then Oper.wp P o a w K Q else E:=by
 have hw:Region.wanted o (yielded ops a.tmps)=true:=by simp [Region.wanted,O6]
 rw [if_pos hw];have zv:=run_copy_row (P:=P) w dT sT o.type elem g off dLen dCap ad sLen sCap cur.toArray t cs hu p9 hg hn V5 (by simpa using hfit) h1;unfold Oper.wp;simp [execOp,ho,resolve,invoke,builtin,hd,hs,zv,Result.andThen];exact h
def Jn (g r:Nat) (hr:r < 64) (w:World) :
 (Instr.sliceAt 234 (.pointer (some ⟨g,9,none⟩)) (some (.int .i64 (r:Int))) none none).run Tryz.prog w=.ok (.slice (some ⟨g,9+r,none⟩) (64 - r) (64 - r)) w:=by
 have hl:Tryz.prog.arrayLen 234=64:=by kernel_rfl
 have he:Tryz.prog.elem 234=5:=by kernel_rfl
 have hs:(sizeOf (Tryz.prog.elem 234)).run Tryz.prog w=.ok 1 w:=by rw [he];kernel_rfl
 rw [run_sliceAt_array_l (P:=Tryz.prog) w 234 ⟨g,9,none⟩ (by kernel_rfl) .i64 (r:Int) (by omega) (by rw [hl];omega),hs];simp only [Result.andThen,slicedAt,hl,Int.toNat_natCast,Nat.mul_one];rw [if_neg (by omega)];have e:(⟨g,9,none⟩:Addr).add r=⟨g,9+r,none⟩:=by unfold Addr.add;split<;>simp_all
 rw [e]
def Kh (bb off len cap m:Nat) (hm:m<=len) (hc:len<=cap):∃A2,Hid (m < len->A2=some ⟨bb,off+m,none⟩) /\
 ∀w:World,(Instr.slice 79 (.slice (some ⟨bb,off,none⟩) len cap) (some (.int .i64 (m:Int))) none none).run Tryz.prog w=.ok (.slice A2 (len - m) (cap - m)) w:=by
 have he:Tryz.prog.elem 79=5:=by kernel_rfl
 have hs:∀w,(sizeOf (Tryz.prog.elem 79)).run Tryz.prog w=.ok 1 w:=by intro w;rw [he];kernel_rfl
 refine ⟨if cap=m then some ⟨bb,off,none⟩ else some ⟨bb,off+m,none⟩,?_,?_⟩
 . intro h
   rw [if_neg (by omega)]
 intro w;rw [run_slice_l (P:=Tryz.prog) w 79 (some ⟨bb,off,none⟩) len cap (by kernel_rfl) .i64 (m:Int) (by omega) (by omega),hs];simp only [Result.andThen,sliced,Int.toNat_natCast,Nat.mul_one,Option.map_some];have e:(⟨bb,off,none⟩:Addr).add m=⟨bb,off+m,none⟩:=by unfold Addr.add;split<;>simp_all
 rw [e]
def oJ {w:World} {g:Nat} {s:SS} (h:mH w g s) (hk:s.Ok):w.rangeAt g 9 (s.ps.map V8):=by
 intro j v hv;rw [Has.at_ h (9+j)];have hj:j < 64:=by
  rcases Nat.lt_or_ge j 64 with h | h
  . exact h
  rw [List.getElem?_eq_none (by simp [hk.2];omega)] at hv;cases hv
 rw [yT s hk j hj,<-hv];simp [V8,at8,List.getD,List.getElem?_eq_getElem (show j < s.ps.length by rw [hk.2];exact hj)]
def kz (y:List (BitVec 32)) (h:y.length=8):vec y=#[.int .u32 (u (at32 y 0)),.int .u32 (u (at32 y 1)),.int .u32 (u (at32 y 2)),.int .u32 (u (at32 y 3)),
 .int .u32 (u (at32 y 4)),.int .u32 (u (at32 y 5)),.int .u32 (u (at32 y 6)),.int .u32 (u (at32 y 7))]:=by
 match y,h with
 | [_,_,_,_,_,_,_,_],_=>rfl
def kc (y:List (BitVec 32)) (h:y.length=8):[at32 y 0,at32 y 1,at32 y 2,at32 y 3,at32 y 4,at32 y 5,at32 y 6,at32 y 7]=y:=by
 match y,h with
 | [_,_,_,_,_,_,_,_],_=>rfl
def Qk (l:List (BitVec 32)) (p:List UInt8):(jN l p).length=8:=vF _ _
def uQ {w:World} {g:Nat} {s:SS} (h:mH w g s) (hk:s.Ok):w.rangeAt g 1 (s.ws.map fA):=by
 intro j v hv;rw [Has.at_ h (1+j)];have hj:j < 8:=by
  rcases Nat.lt_or_ge j 8 with h | h
  . exact h
  rw [List.getElem?_eq_none (by simp [hk.1];omega)] at hv;cases hv
 rw [bT s hk j hj,<-hv];simp [fA,at32,List.getD,List.getElem?_eq_getElem (show j < s.ws.length by rw [hk.1];exact hj)]
def Ga {w:World} {g:Nat} {s:SS} (h:mH w g s) (hk:s.Ok) {n:Nat} (hn:n=8):w.there g 1 n:=by
 subst hn;intro j hj;exact ⟨by rw [Has.at_ h (1+j),bT s hk j hj];rfl,Has.free h _⟩
def nQ (xs:List UInt8) (j m:Nat) (c:List UInt8) (h:c=(xs.drop j).take m):xs.take (j+m)=xs.take j++c:=by
 rw [h,List.take_add]
def i5:(Tryz.prog.info? 5).map (·.size)=some 1:=by kernel_rfl
def pI (g:Nat) (s:SS) (bb off len cap:Nat) (A:Option Addr) (xs:List UInt8) (w:World) (pu:s.Ok) (p6:mH w g s) (IG:g≠0) (hT:Tab w)
 (IN:xs.length=len) (xa:len<=cap) (DK:s.n+len<=4611686018427387904) (V5:∀j,j < len->w.cell? ⟨bb,off+j,none⟩=some (.int .u8 (b8 (at8 xs j))))
 (j3:bb≠g) (hA:0 < len->A=some ⟨bb,off,none⟩) :
 qC 116 #[.pointer (some ⟨g,0,none⟩),.slice A len cap] w fun e w'=>e=.returned (.tuple #[])/\mH w' g (feed s xs)/\dG g w w':=by
 have H1:=hid pu;have H2:=hid p6;have H4:=hid hT;have H5:=hid IN;have H6:=hid V5;have H7:=hid hA;clear pu p6 hT IN V5 hA;go_enter Tryz.func116,Tryz.ntmps116
 go_wp2;go_loopw [1] (fun v wr=>∃(j:Nat) (A':Option Addr),j<=len/\v=.slice A' (len - j) (cap - j)/\Hid (j < len->A'=some ⟨bb,off+j,none⟩) /\
  Hid (mH wr g (feed s (xs.take j)))/\Hid (dG g w wr))
  (fun v _=>match v with | .slice _ l _=>l | _=>0)
 case atStart=>exact ⟨0,A,Nat.zero_le _,rfl,H7,H2,hid (dG.refl _ _)⟩
 obtain ⟨j,A',hj,rfl,HA,HS,HG⟩:=hrel;by_cases d8:j < len
 .
  have hpos:(0:Int) < ((len - j:Nat):Int):=by omega
  obtain rfl:=HA.o d8;obtain ⟨r,HR,hr⟩:∃r,Hid ((feed s (xs.take j)).n % 64=r)/\r < 64:=⟨_,rfl,by omega⟩;obtain ⟨nn,tu⟩:=qX ((feed s (xs.take j)).n);have NV:(nn:Int).tmod 64=(r:Int):=by
   rw [Int.tmod_eq_emod_of_nonneg (by omega)];have:=HR.o;have:=tu.o;omega
  obtain ⟨c,HC,xe⟩:∃c:List UInt8,Hid (c=(xs.drop j).take (Nat.min (len - j) (64 - r)))/\Hid (c.length=Nat.min (len - j) (64 - r)):=by
   refine ⟨_,rfl,?_⟩;show List.length _=_
   rw [List.length_take,List.length_drop,H5.o];simp only [Nat.min_def];split<;>split<;>omega
  have L0:Hid (feed s (xs.take j)).Ok:=yZ _ _ H1.o;have NW:Hid (c.length<=len - j/\c.length<=64 - r):=by
   show _/\_
   rw [xe.o];simp only [Nat.min_def];split<;>omega
  have HSRC:Hid (∀k v,(c.map V8)[k]? = some v->wr.cell? ((⟨bb,off+j,none⟩:Addr).add k)=some v):=by
   intro k v hv;have RM:k < c.length:=by
    rcases Nat.lt_or_ge k c.length with h | h
    . exact h
    rw [List.getElem?_eq_none (by simpa using h)] at hv;cases hv
   have:=NW.o;have o3:j+k < len:=by omega
   have e1:=H6.o (j+k) o3;have e2:wr.cell? ⟨bb,off+(j+k),none⟩=w.cell? ⟨bb,off+(j+k),none⟩ :=
    World.cell?_of_block (HG.o.block bb (block_lt_of_cell e1) (fun h=>j3 (Option.some.inj h)))
   have e3:(⟨bb,off+j,none⟩:Addr).add k=⟨bb,off+(j+k),none⟩:=by unfold Addr.add;split<;>simp_all [Nat.add_assoc]
   rw [e3,e2,e1,<-hv,HC.o];rw [List.getElem?_map,List.getElem?_take,if_pos (by rw [<-xe.o];exact RM),List.getElem?_drop];rw [List.getElem?_eq_getElem (by rw [H5.o];exact o3)];simp [V8,at8,List.getD,List.getElem?_eq_getElem (show j+k < xs.length by rw [H5.o];exact o3)]
  have HFIT:Hid (9+r+(c.map V8).length<=(feed s (xs.take j)).cells.length):=by
   show _<=_
   rw [SS.cells_len _ L0.o,List.length_map];have:=NW.o;omega
  have J7:Hid ((c.map V8).length=Nat.min (len - j) (64 - r)):=by
   show _=_
   rw [List.length_map];exact xe.o
  have IJ:Hid (∀v∈c.map V8,v.oneCell'=true):=by
   intro v hv;obtain ⟨x,_,rfl⟩:=List.mem_map.1 hv;rfl
  have ccount:wr.cell? ⟨g,73,none⟩=some (.int .i64 (nn:Int)):=by
   have:=(Has.at_ HS.o 73).trans (kW _ L0.o);rw [tu.o] at this;exact this
  have hr64:(r:Int) < 64:=by omega
  have IO:(0:Int)<=(r:Int):=by omega
  have ql:=Jn g r hr;go_wp2;go_region_law (refine Bl (by rfl) (.tmp 16) (.tmp 17) 79 79 (by rfl) 5 Tryz.underlying79 i5 g (9+r) (64 - r) (64 - r) ⟨bb,off+j,none⟩ (len - j) (cap - j) (by rfl) (by rfl) _ 236 HS.o (c.map V8) J7.o HSRC.o HFIT.o IJ.o ?_)
  generalize hG:World.setRow _ _ _=W1;obtain ⟨s1,zy⟩:∃s1:SS,Hid (s1=⟨(feed s (xs.take j)).ws,splice (feed s (xs.take j)).ps r c,nn⟩):=⟨_,rfl⟩;have DP:Hid s1.Ok:=by
   show s1.Ok
   rw [zy.o];have:=NW.o;exact ⟨L0.o.1,by show (splice _ _ _).length=64;rw [Js _ _ _ (by rw [L0.o.2];omega)];exact L0.o.2⟩
  have T1:Hid (mH W1 g s1):=by
   rw [<-hG,zy.o,<-tu.o];show Has _ g 236 _
   rw [<-Cc _ L0.o r c (by have:=NW.o;omega)];exact Has.row (w:=wr.drewN 1) HS.o
  have G1:Hid (dG g w W1):=by
   rw [<-hG];exact (HG.o.drawn 1).trans (dG.of_row g (wr.drewN 1) _)
  have FO:Hid (s1.n=nn):=by show s1.n=nn;rw [zy.o]
  clear hG ccount;have c1:W1.cell? ⟨g,73,none⟩=some (.int .i64 (nn:Int)):=by
   have:=(Has.at_ T1.o 73).trans (kW _ DP.o);rw [FO.o] at this;exact this
  have f1:W1.frozen? ⟨g,73,none⟩=false:=Has.free T1.o 73;obtain ⟨m,HM⟩:=qX (c.length);rw [HM.o];have FP:Hid (m<=len - j/\m<=64 - r/\0 < m):=by
   have h1:=NW.o;have h2:c.length=Nat.min (len - j) (64 - r):=xe.o;rw [HM.o] at h1 h2;refine ⟨h1.1,h1.2,?_⟩;rw [h2];simp only [Nat.min_def];split<;>omega
  obtain ⟨q,HQ⟩:=qX (nn+m);have ID:Hid (nn+m<=4611686018427387904):=by
   have h1:=FP.o;have h2:=Bz (xs.take j) s;rw [tu.o,List.length_take] at h2;show _<=_
   have:=Nat.min_le_left j xs.length;omega
  have wq:IntKind.i64.wrap ((nn:Int)+(m:Int))=(q:Int):=by
   have h1:=HQ.o;have h2:=ID.o;rw [aM _ (by omega) (by omega)];omega
  obtain ⟨A2,qm,IP⟩:=Kh bb (off+j) (len - j) (cap - j) m FP.o.1 (by omega);by_cases hq:q % 64=0
  .
   have q1:(q:Int).tmod 64=0:=by rw [Int.tmod_eq_emod_of_nonneg (by omega)];omega
   have q2:(q:Int) % 64=0:=by omega
   have NX:=hid hq;clear hq;go_wp2;generalize UQ:World.setCell W1 _ _=W2;obtain ⟨s2,C6⟩:∃s2:SS,Hid (s2=⟨s1.ws,s1.ps,q⟩):=⟨_,rfl⟩;have D8:Hid s2.Ok:=by show s2.Ok;rw [C6.o];exact DP.o
   have T2:Hid (mH W2 g s2):=by
    rw [<-UQ,C6.o];show Has _ g 236 _
    rw [<-uR _ DP.o];exact Has.put T1.o 73 _
   have G2:Hid (dG g w W2):=by
    rw [<-UQ];exact G1.o.trans (dG.of_set g 73 W1 _)
   clear UQ c1 f1;have TB:Hid (Tab W2):=fun i hi=>(World.cell?_of_block (a:=⟨0,i,none⟩) (G2.o.block 0 (Tab.pos H4.o) (fun h=>IG (Option.some.inj h).symm))).trans (H4.o i hi)
   have T2a:=T2.o.at_;have k0:W2.cell? ⟨g,1,none⟩=some (.int .u32 (u (at32 s2.ws 0))):=(T2a 1).trans (bT s2 D8.o 0 (by omega));have k1:W2.cell? ⟨g,2,none⟩=some (.int .u32 (u (at32 s2.ws 1))):=(T2a 2).trans (bT s2 D8.o 1 (by omega));have k2:W2.cell? ⟨g,3,none⟩=some (.int .u32 (u (at32 s2.ws 2))):=(T2a 3).trans (bT s2 D8.o 2 (by omega));have k3:W2.cell? ⟨g,4,none⟩=some (.int .u32 (u (at32 s2.ws 3))):=(T2a 4).trans (bT s2 D8.o 3 (by omega));have k4:W2.cell? ⟨g,5,none⟩=some (.int .u32 (u (at32 s2.ws 4))):=(T2a 5).trans (bT s2 D8.o 4 (by omega));have k5:W2.cell? ⟨g,6,none⟩=some (.int .u32 (u (at32 s2.ws 5))):=(T2a 6).trans (bT s2 D8.o 5 (by omega));have k6:W2.cell? ⟨g,7,none⟩=some (.int .u32 (u (at32 s2.ws 6))):=(T2a 7).trans (bT s2 D8.o 6 (by omega));have k7:W2.cell? ⟨g,8,none⟩=some (.int .u32 (u (at32 s2.ws 7))):=(T2a 8).trans (bT s2 D8.o 7 (by omega));clear T2a;have k8:W2.rangeAt g 9 (s2.ps.map V8):=oJ T2.o D8.o;have TBd:Hid (Tab W2.drew):=TB;have T2d:Hid (mH W2.drew g s2):=T2;have k8d:W2.drew.rangeAt g 9 (s2.ps.map V8):=k8;refine qG (S:=fun w'=>w'.rangeAt g 9 (s2.ps.map V8)) (by kernel_rfl) k8d (fun hS=>?_);refine aG 0 ?_
   iterate 4
    refine qT rfl (by kernel_rfl) ‹_› (fun w a8=>by (try dsimp only at a8);go_simp;with_reducible rfl) ?_;simp only [Act.put,aB,aA,aC,Nat.reduceAdd]
   refine aE ?_;refine aG 5 ?_
   iterate 3
    refine qT rfl (by kernel_rfl) ‹_› (fun w a8=>by (try dsimp only at a8);go_simp;with_reducible rfl) ?_;simp only [Act.put,aB,aA,aC,Nat.reduceAdd]
   refine aE ?_;refine' wpAnyH_take (i:=8) (v:=_) (by simp only [fD,fC,fP];rfl) (by kernel_rfl) (by kernel_rfl) (by kernel_rfl) (fun _ _ _ h=>h)
    (yieldsIf_load_mid (by rfl) _ _ rfl _ _ rfl (s2.ps.map V8) _ (fun w a8=>a8) Tryz.underlying234 rfl (by rw [List.length_map,D8.o.2];exact ki)) (by assumption) ?_
   simp only [Act.put,aB,aA,aC];refine qD 4 rfl (by kernel_rfl) fun K hK=>?_
   rw [if_pos (by rfl)];refine wp_load_mid 232 _ rfl g 1 rfl (s2.ws.map fA) _ (uQ T2d.o D8.o) Tryz.underlying232 rfl (by rw [List.length_map,D8.o.1];exact Qh) ?_;rw [show (s2.ws.map fA).toArray=_ from kz s2.ws D8.o.1];simp only [Act.put,aB,aA,aC];refine hK.o _ _ k8d (fun hS=>?_);clear hK K;refine qD 9 rfl (by kernel_rfl) fun K hK=>?_
   go_simp;refine (Vr _ _ _ _ _ _ _ _ s2.ps D8.o.2 _ TBd.o).mono ?_;rintro e2 w3 ⟨rfl,i7⟩;have T3:Hid (mH w3 g s2):=Has.kept T2d.o i7 (Has.inside T2d.o);have G3:Hid (dG g w w3):=(show dG g w W2.drew from G2.o.drawn 1).trans (dG.of_below i7);have n8:w3.rangeAt g 9 (s2.ps.map V8):=oJ T3.o D8.o;clear i7;obtain ⟨y,HY⟩:=qX (jN s2.ws s2.ps);have IQ:Hid (y.length=8):=by show y.length=8;rw [<-HY.o];exact Qk _ _
   rw [kc s2.ws D8.o.1,HY.o];refine hK.o _ _ n8 (fun hS=>?_);clear hK K;refine aG 10 ?_
   iterate 2
    refine qT rfl (by kernel_rfl) ‹_› (fun w a8=>by (try dsimp only at a8);go_simp;with_reducible rfl) ?_;simp only [Act.put,aB,aA,aC,Nat.reduceAdd]
   refine aE ?_;refine qD 12 rfl (by kernel_rfl) fun K hK=>?_
   rw [if_pos (by rfl)];refine wp_store_mid 232 _ _ rfl g 1 (vec y) rfl rfl (Ga T3.o D8.o (by rw [fM,IQ.o])) (by rw [fM,IQ.o];exact Qh) (tU _) ?_;have T4:Hid (mH (w3.setCells g 1 (vec y).toList) g ⟨y,s2.ps,s2.n⟩):=by
    show Has _ g 236 _
    rw [<-Gy s2 D8.o y IQ.o];exact Has.sets (y.map fA) 1 w3 s2.cells T3.o (by rw [List.length_map,IQ.o,SS.cells_len _ D8.o];omega)
   have G4:Hid (dG g w (w3.setCells g 1 (vec y).toList)):=G3.o.trans (dG.of_sets g _ 1 w3);have m8:(w3.setCells g 1 (vec y).toList).rangeAt g 9 (s2.ps.map V8):=oJ (s:=⟨y,s2.ps,s2.n⟩) T4.o ⟨IQ.o,D8.o.2⟩;simp only [Act.put];refine hK.o _ _ m8 (fun hS=>?_);clear hK K;refine qM (by kernel_rfl) ?_;generalize World.setCells w3 g 1 (vec y).toList=W4 at T4 G4;clear n8 m8 hS k8 k8d;go_wp2;go_roundw
   case rel =>
    refine ⟨j+m,A2,by have:=FP.o;omega,by rw [Nat.sub_sub,Nat.sub_sub],fun h=>?_,?_,G4⟩
    . have:=qm.o (by omega)
      rw [this,Nat.add_assoc]
    have E:feed s (xs.take (j+m))=⟨y,s2.ps,s2.n⟩:=by
     have hm:=HM.o;have hb:=FP.o;have BU:=HR.o;have FO:=tu.o;have FS:=HQ.o;have UR:=NX.o;rw [nQ xs j m c (by rw [HC.o,<-xe.o,hm]),lT,zT c _ L0.o.2 (by omega) (by omega),BU,FO,<-HY.o,C6.o,zy.o,hm,FS]
    rw [E];exact T4
   case measure=>show len - j - m < len - j;have:=FP.o;omega
  obtain ⟨t,NX,ht⟩:∃t,Hid (q % 64=t)/\t≠0:=⟨_,rfl,hq⟩;have q1:(q:Int).tmod 64=(t:Int):=by rw [Int.tmod_eq_emod_of_nonneg (by omega)];have:=NX.o;omega
  have q2:(q:Int) % 64=(t:Int):=by have:=NX.o;omega
  have q3:((t:Int) == 0)=false:=by simp;exact ht
  have q4:decide ((t:Int)=0)=false:=by simp;exact ht
  clear hq;go_wp2;have T2:Hid (mH (W1.setCell ⟨g,73,none⟩ (.int .i64 (q:Int))) g ⟨s1.ws,s1.ps,q⟩):=by
   show Has _ g 236 _
   rw [<-uR _ DP.o];exact Has.put T1.o 73 _
  have G2:Hid (dG g w (W1.setCell ⟨g,73,none⟩ (.int .i64 (q:Int)))):=G1.o.trans (dG.of_set g 73 W1 _);go_roundw
  case rel =>
   refine ⟨j+m,A2,by have:=FP.o;omega,by rw [Nat.sub_sub,Nat.sub_sub],fun h=>?_,?_,G2⟩
   . have:=qm.o (by omega)
     rw [this,Nat.add_assoc]
   have E:feed s (xs.take (j+m))=⟨s1.ws,s1.ps,q⟩:=by
    have hm:=HM.o;have hb:=FP.o;have BU:=HR.o;have FO:=tu.o;have FS:=HQ.o;have UR:=NX.o;rw [nQ xs j m c (by rw [HC.o,<-xe.o,hm]),lT,Rr c _ L0.o.2 (by omega) (by omega),BU,FO,zy.o,hm,FS]
   rw [E];exact T2
  case measure=>show len - j - m < len - j;have:=FP.o;omega
 obtain rfl:j=len:=by omega
 rw [Nat.sub_self];go_wp2;go_end0
 refine ⟨rfl,?_,HG.o⟩;have:=HS.o;rw [List.take_of_length_le (by rw [H5.o];omega)] at this;exact this
def mT (n j:Nat):UInt8:=UInt8.ofNat (n*8 / 2 ^ (56 - 8*j))
def bW (n j:Nat):List UInt8:=(List.range j).map (mT n)
def cQ (n:Nat):List UInt8:=128 :: List.replicate ((119 - n % 64) % 64) 0
def padL (n:Nat):List UInt8:=cQ n++bW n 8
def rO (n j:Nat):bW n (j+1)=bW n j++[mT n j]:=by simp [bW,List.range_succ]
def vA (m:Nat):b8 (UInt8.ofNat m)=((m % 256:Nat):Int):=by simp [b8]
def xA:(Tryz.prog.info? 5).map (fun i=>(i.zero,i.size,i.bytes))=some (some (.int .u8 0),1,1):=by kernel_rfl
def Ks (m:Nat):madeCells #[Value.int .u8 0] m=bvec (List.replicate m 0):=by
 apply Array.ext
 . simp [madeCells,bvec]
 intro i h1 h2;simp [madeCells,bvec,Nat.mod_one];rfl
def Fy (n:Nat) (hn:n<=1099511627776) (w:World) :
 qC 171 #[.int .i64 (n:Int)] w fun e w'=>∃v,e=.returned v/\w'.ownsRow w.heap.size 5 1 v (padL n).length ((padL n).map V8)/\qW w w':=by
 obtain ⟨i0,hi,o7,g8,j5⟩:=info_parts xA;obtain ⟨r,r1,r2,HR⟩:∃r:Nat,(n:Int).tmod 64=(r:Int)/\(n:Int) % 64=(r:Int)/\Hid (n % 64=r/\r < 64) :=
  ⟨n % 64,by rw [Int.tmod_eq_emod_of_nonneg (by omega)];omega,by omega,rfl,by omega⟩
 obtain ⟨k,k1,k2,HK⟩:∃k:Nat,(119 - (r:Int)).tmod 64=(k:Int)/\(119 - (r:Int)) % 64=(k:Int)/\Hid ((119 - n % 64) % 64=k/\k < 64):=by
  have:=HR.o;exact ⟨(119 - n % 64) % 64,by rw [Int.tmod_eq_emod_of_nonneg (by omega)];omega,by omega,rfl,by omega⟩
 obtain ⟨a,a1,HA⟩:∃a:Nat,1+(k:Int)=(a:Int)/\Hid (1+k=a):=⟨1+k,by omega,rfl⟩;obtain ⟨c,c1,HC⟩:∃c:Nat,(a:Int)+8=(c:Int)/\Hid (a+8=c):=⟨a+8,by omega,rfl⟩;have IO:(0:Int)<=(r:Int):=by omega
 have hr64:(r:Int) < 64:=by have:=HR.o;omega
 have hk64:(k:Int) < 64:=by have:=HK.o;omega
 have ha66:(a:Int) < 66:=by omega
 have LO:(0:Int) < (a:Int):=by omega
 have NY:∀w:World,(Instr.makeSlice 79 (.int .i64 (a:Int)) (.int .i64 (c:Int))).run Tryz.prog w=.ok (.slice (some ⟨w.heap.size,0,none⟩) a c) (w.alloc (.cells (bvec (List.replicate c 0)) 5)):=by
  intro w;have:=run_make (P:=Tryz.prog) w 79 5 i0 (.int .u8 0) Tryz.underlying79 hi o7 .i64 .i64 (a:Int) (c:Int) (by omega) (by omega) (by rw [j5];omega) (by omega);rw [this];simp only [Int.toNat_natCast,g8,Nat.mul_one];rw [show (Value.int IntKind.u8 0).cells=#[Value.int .u8 0] from rfl,Ks]
 have ue:(bvec (List.replicate c 0))[0]? = some (Value.int .u8 (b8 (at8 (List.replicate c 0) 0))):=fL _ 0 (by rw [List.length_replicate];have:=HC.o;omega);go_enter Tryz.func171,Tryz.ntmps171
 go_wp2;go_loopw [4,5] (fun v i wr=>∃(j:Nat) (q:Int),j<=8/\i=.int .i64 q/\Hid (q=56 - 8*(j:Int))/\Hid (wr.ownsRow w.heap.size 5 1 v (a+j) ((cQ n++bW n j).map V8))/\Hid (qW w wr))
  (fun _ i _=>(intOf i+8).toNat)
 case atStart =>
  refine ⟨0,56,by omega,rfl,rfl,?_,?_⟩
  .
   have e1:(cQ n).length=a:=by have h1:=HK.o;have h2:=HA.o;simp [cQ];omega
   refine ⟨by simp [bW,e1],.inr ⟨w.heap.size,c,(bvec (List.replicate c 0)).setIfInBounds 0 (.int .u8 (b8 128)),rfl,Nat.le_refl _,heap_alloc_new w _,by have:=HC.o;omega,by have:=HC.o;unfold maxLen;omega,by simp [bvec],?_⟩⟩;rw [lO,bvec];show List.take _ (List.map _ _)=_
   rw [<-List.map_take];have h1:=HK.o;have h2:=HA.o;have h3:=HC.o;have e2:((List.replicate c (0:UInt8)).set 0 128).take ((a+0)*1)=cQ n++bW n 0:=by
    obtain ⟨c',rfl⟩:∃c',c=c'+1:=⟨c - 1,by omega⟩;rw [List.replicate_succ,List.set_cons_zero];obtain ⟨a',rfl⟩:∃a',a=a'+1:=⟨a - 1,by omega⟩;simp [cQ,bW,List.take_replicate];omega
   rw [e2];rfl
  exact qB.alloc qN _
 obtain ⟨j,q,hj,rfl,HQ,HO,HB⟩:=hrel;by_cases d8:j < 8
 .
  obtain ⟨sh,rfl⟩:∃sh:Nat,q=(sh:Int):=⟨56 - 8*j,by have:=HQ.o;omega⟩;have FU:(0:Int)<=(sh:Int):=by omega
  have hsh2:(sh:Int)<=56:=by have:=HQ.o;omega
  have N1:Hid (∀u∈[Value.int .u8 ((n:Int)*8 / 2 ^ sh % 256)],u.oneCell'=true):=by
   intro u hu;rw [List.mem_singleton] at hu;subst hu;rfl
  have N2:Hid (a+j+1<=maxLen):=by show _<=_;unfold maxLen;omega
  have N3:Hid ((a+j+1)*1<=140737488355328):=by show _<=_;omega
  have N4:Hid (∀o,w.heap.size<=(wr.alloc o).heap.size):=by intro o;have:=HB.o.size;simp;omega
  have N5:Hid (Value.int .u8 ((n:Int)*8 / 2 ^ sh % 256)=V8 (mT n j)):=by
   have e:sh=56 - 8*j:=by have:=HQ.o;omega
   show Value.int _ _=Value.int _ _
   rw [mT,vA,e];norm_cast
  go_wp2_with (at_builtin;refine wpList_append_own _ rfl _ _ 79 rfl w.heap.size 5 i0 (.int .u8 0) 1 1 Tryz.underlying79 hi o7 g8 j5 rfl (by omega) _ _ _ rfl (HO.o.alloc _) ⟨wr.heap.size,0,none⟩ 1 1 [Value.int .u8 ((n:Int)*8 / 2 ^ sh % 256)] rfl rfl (cell_one_new _ _ _) N1.o N2.o N3.o (N4.o _) ?_;intro v' w1 l8 i8 _)
  have rn:Hid (w1.ownsRow w.heap.size 5 1 v' (a+(j+1)) ((cQ n++bW n (j+1)).map V8)):=by
   rw [N5.o] at l8;rw [rO,<-List.append_assoc,List.map_append];exact l8
  have i9:Hid (qW w w1) :=
   ((HB.o.alloc HB.o.size _).grown i8 (N4.o _) (fun g hg=>by
     rcases HO.o.2 with ⟨rfl,_⟩ | ⟨g',_,_,rfl,p5,_⟩
     . cases hg
     obtain rfl:=Option.some.inj hg;exact p5))
  clear l8 i8;go_wp2;go_roundw
  case rel=>exact ⟨j+1,(sh:Int) - 8,by omega,rfl,by show _=_;have:=HQ.o;omega,rn,i9⟩
  case measure=>simp [intOf];omega
 obtain rfl:j=8:=by omega
 have hq:q < 0:=by have:=HQ.o;omega
 go_wp2;go_ret;refine ⟨_,rfl,?_,HB.o⟩;have e1:(padL n).length=a+8:=by have h1:=HK.o;have h2:=HA.o;simp [padL,cQ,bW];omega
 rw [e1];exact HO.o
def jT:List (BitVec 32):=[0x6a09e667,0xbb67ae85,0x3c6ef372,0xa54ff53a,0x510e527f,0x9b05688c,0x1f83d9ab,0x5be0cd19]
def Nf:Array Value:=#[.int .u32 1779033703,.int .u32 3144134277,.int .u32 1013904242,.int .u32 2773480762,.int .u32 1359893119,.int .u32 2600822924,.int .u32 528734635,.int .u32 1541459225]
def jF:SS:=⟨jT,List.replicate 64 0,0⟩
def Ij:jF.Ok:=⟨rfl,rfl⟩
def dz (w:World):qC 169 #[] w fun e w'=>e=.returned (.agg Nf)/\qW w w':=by
 go_enter Tryz.func169,Tryz.ntmps169
 go_wp2;refine bodyPost_ret (results_cell_row rfl _ _ w.heap.size 232 Nf (0,0) _ rfl (heap_alloc_new w _) Tryz.underlying232 rfl Qh) rfl ⟨rfl,?_⟩;exact qB.alloc qN _
def Zb (w:World):qC 115 #[] w fun e w'=>∃g,w.heap.size<=g/\e=.returned (.pointer (some ⟨g,0,none⟩))/\mH w' g jF/\qW w w':=by
 go_enter Tryz.func115,Tryz.ntmps115
 go_wp2_with (first
  | (go_at_call 169;refine (dz _).mono ?_;rintro e1 w1 ⟨rfl,c8⟩)
  | (refine wpList_build rfl 236 _ rfl (by kernel_rfl) ?_))
 have hB:(Tryz.prog.built 236 [(0,Value.bool true),(1,Value.agg Nf)]).getD #[]=jF.cells.toArray:=by kernel_rfl
 go_ret;refine ⟨w1.heap.size,c8.size,rfl,?_,c8.alloc c8.size _⟩;show Has _ _ 236 _
 rw [hB];exact Has.fresh w1 236 _
def byteOf (x:BitVec 32) (k:Nat):UInt8:=UInt8.ofNat (x.toNat / 2 ^ k)
def jM (ws:List (BitVec 32)):Nat->List UInt8
 | 0=>List.replicate 32 0
 | k+1=>((((jM ws k).set (4*k) (byteOf (at32 ws k) 24)).set (4*k+1) (byteOf (at32 ws k) 16)).set (4*k+2) (byteOf (at32 ws k) 8)).set (4*k+3) (byteOf (at32 ws k) 0)
def uF (ws:List (BitVec 32)) (k:Nat):(jM ws k).length=32:=by
 induction k with
 | zero=>simp [jM]
 | succ k ih=>simp [jM,ih]
def nA (x:BitVec 32) (k:Nat):u x / 2 ^ k % 256=b8 (byteOf x k):=by
 rw [byteOf,vA,u,Int.natCast_emod,Int.natCast_ediv,Int.natCast_pow];rfl
def Jv (ws:List (BitVec 32)) (h:ws.length=8) (i:Nat) (hi:i < 8) (w:World) :
 (Instr.index 232 (.agg (ws.map fA).toArray) (.int .i64 (i:Int))).run Tryz.prog w=.ok (.int .u32 (u (at32 ws i))) w:=by
 match ws,h with
 | [a,b,c,d,e,f,g,h],_ =>
  obtain rfl | rfl | rfl | rfl | rfl | rfl | rfl | rfl:i=0∨i=1∨i=2∨i=3∨i=4∨i=5∨i=6∨i=7:=by omega
  all_goals rfl
def Pq (s:SS):List UInt8:=jM (feed s (padL s.n)).ws 8
def Ce (n:Nat):0 < (padL n).length:=by simp [padL,cQ]
def Bj (n:Nat) (hn:n<=1099511627776) (w:World) :
 qC 171 #[.int .i64 (n:Int)] w fun e w'=>∃gp cap,e=.returned (.slice (some ⟨gp,0,none⟩) (padL n).length cap) /\
  Hid (w.heap.size<=gp/\(padL n).length<=cap/\(∀j,j < (padL n).length->w'.cell? ⟨gp,0+j,none⟩=some (.int .u8 (b8 (at8 (padL n) j))))/\qW w w') :=
 (Fy n hn w).mono fun e w' ⟨v,he,ho,hb⟩=>by
   rcases ho.2 with ⟨_,h0⟩ | ⟨gp,cap,cur,hv,p5,hh,hc,_,_,htk⟩
   . have:=Ce n;omega
   refine ⟨gp,cap,by rw [he,hv],p5,hc,fun j hj=>?_,hb⟩;rw [Nat.zero_add,cell_of_row w' gp j cur 5 (0,0) hh];have h1:(cur.toList.take ((padL n).length*1))[j]? = ((padL n).map V8)[j]?:=by rw [htk]
   rw [List.getElem?_take,if_pos (by omega),List.getElem?_map,List.getElem?_eq_getElem hj] at h1;rw [<-Array.getElem?_toList,h1];simp [V8,at8,List.getD,List.getElem?_eq_getElem hj]
def zeroS:Array Value:=(Value.bool false :: (List.replicate 8 (Value.int .u32 0)++(List.replicate 64 (Value.int .u8 0)++[Value.int .i64 0]))).toArray
def Wp (w:World):(zeroValue 236).run Tryz.prog w=.ok (.agg zeroS) w:=by kernel_rfl
def Ox (w:World) (s:SS):∃W1,((w.alloc (.cells (bvec (List.replicate 32 0)) 81)).alloc (.cells zeroS 236)).setRow (w.heap.size+1) s.cells.toArray=W1 /\
 Hid (mH W1 (w.heap.size+1) s)/\Hid (qW w W1)/\Hid (Has W1 w.heap.size 81 (bvec (List.replicate 32 0)))/\Hid (W1.heap.size=w.heap.size+2):=by
 refine ⟨_,rfl,?_,?_,?_,?_⟩
 . exact Has.row (Has.fresh' (w.alloc _) 236 zeroS (by simp))
 . exact ((qB.alloc qN _).alloc (by simp) _).rowK (by omega) _
 . exact ((Has.fresh w 81 (bvec (List.replicate 32 0))).more _).rowOther (by omega)
 show _=_;simp
def sY {g B:Nat} {a b:World} (h:dG g a b) (h1:B<=g) (h2:B<=a.heap.size):Below B a b :=
 ⟨h.os,h.tape,h.output,h.size,fun k hk=>h.block k (by omega) (fun e=>by have:=Option.some.inj e;omega)⟩
def Iv {l:List (BitVec 32)} (h:l.length=8):Hid ((Tryz.prog.info? 232).map (·.size)=some (l.map fA).length):=by
 show _=_
 rw [List.length_map,h];exact Qh
def Vg {n:Nat} (h:n<=1099511627776) (hp:(padL n).length<=72):n+(padL n).length<=4611686018427387904:=by omega
def zero32:Array Value:=#[.int .u8 0,.int .u8 0,.int .u8 0,.int .u8 0,.int .u8 0,.int .u8 0,.int .u8 0,.int .u8 0,.int .u8 0,.int .u8 0,.int .u8 0,.int .u8 0,.int .u8 0,.int .u8 0,.int .u8 0,.int .u8 0,
 .int .u8 0,.int .u8 0,.int .u8 0,.int .u8 0,.int .u8 0,.int .u8 0,.int .u8 0,.int .u8 0,.int .u8 0,.int .u8 0,.int .u8 0,.int .u8 0,.int .u8 0,.int .u8 0,.int .u8 0,.int .u8 0]
def Un:zero32=bvec (List.replicate 32 0):=rfl
def Kf:Hid (zero32.all (·.oneCell')=true):=by show _=_;rw [Un];exact pS _
def Zc (w w3:World) (B:Nat) (vs:List Value) (h1:Hid (Below B w w3)) (h2:Hid (Has w3 B 81 (bvec (List.replicate 32 0)))) (h3:Hid (w3.rangeAt (B+1) 1 vs)) :
 ∃W5,(w3.alloc (.cells zero32 81)).setRow w3.heap.size zero32=W5 /\
  Hid (Below B w W5)/\Hid (Has W5 B 81 (bvec (List.replicate 32 0)))/\Hid (Has W5 w3.heap.size 81 (bvec (List.replicate 32 0)))/\Hid (vs≠[]->W5.rangeAt (B+1) 1 vs):=by
 have hB:B < w3.heap.size:=Has.inside h2.o;refine ⟨_,rfl,?_,?_,?_,?_⟩
 . exact (h1.o.alloc (by omega) _).rowK (by omega) _
 . exact (Has.more h2.o _).rowOther (by omega)
 . exact Has.row (Has.fresh w3 81 zero32)
 intro hv j x hx;have hc:=h3.o j x hx;have d8:=block_lt_of_cell hc;have e:((w3.alloc (.cells zero32 81)).setRow w3.heap.size zero32).cell? ⟨B+1,1+j,none⟩=w3.cell? ⟨B+1,1+j,none⟩ :=
  World.cell?_of_block ((setRow_other _ _ (B+1) _ (by simp at d8;omega)).trans (Below.heap_alloc w3 _ (B+1) d8))
 rw [e];exact hc
def Wv {l:List (BitVec 32)} (h:l.length=8):l.map fA≠[]:=by
 intro e;have:=congrArg List.length e;simp [h] at this
def Dh (n:Nat):(padL n).length<=72:=by simp [padL,cQ,bW];omega
def Xg (g:Nat) (s:SS) (w:World) (pu:s.Ok) (p6:mH w g s) (hn:s.n<=1099511627776) (hT:Tab w) :
 qC 117 #[.pointer (some ⟨g,0,none⟩)] w fun e w'=>e=.returned (.agg (bvec (Pq s)))/\qW w w':=by
 have c0:w.cell? ⟨g,0,none⟩=some (.bool true):=(Has.at_ p6 0).trans rfl;have c1:w.cell? ⟨g,73,none⟩=some (.int .i64 (s.n:Int)):=(Has.at_ p6 73).trans (kW s pu);have HK:=hid pu;have HS:=hid p6;have HT:=hid hT;have HI:=hid (Has.inside p6);have Z1:Hid ((Tryz.prog.info? 236).map (·.size)=some s.cells.toArray.size):=by rw [List.size_toArray,SS.cells_len s pu];exact lu
 have Z2:Hid (zeroS.size=s.cells.toArray.size):=(show zeroS.size=74 from rfl).trans (List.size_toArray.trans (SS.cells_len s pu)).symm;have Z3:Hid (s.cells.toArray.all (·.oneCell')=true):=Array.all_eq_true_iff_forall_mem.2 fun v hv=>cells_one s v (by simpa using hv)
 have g0:¬g=w.heap.size:=by have:=Has.inside p6;omega
 have g1:¬g=w.heap.size+1:=by have:=Has.inside p6;omega
 have c0a:∀o,(w.alloc o).cell? ⟨g,0,none⟩=some (.bool true):=fun o=>(World.cell?_alloc_lt w o ⟨g,0,none⟩ (Has.inside p6)).trans c0
 have xc:Hid (g < w.heap.size):=Has.inside p6;have V3:=hid hT.pos;have y7:=hid (Dh s.n);have DN:=hid c1;have hzr:=Wp;have Z4:∀{o},Hid (w.heap.size+1=(w.alloc o).heap.size):=fun {o}=>by show _=_;simp
 clear pu p6 hT c1;go_enter Tryz.func117,Tryz.ntmps117
 go_wp2_with (first
  | (refine wpList_load_row rfl 236 _ rfl g rfl 236 s.cells.toArray (0,0) _ (Has.more HS.o _) Tryz.underlying236 rfl Z1.o ?_)
  | (refine wpList_store_row rfl 236 (.tmp 3) (.tmp 19) rfl (w.heap.size+1) s.cells.toArray rfl rfl 236 zeroS (Has.fresh' (w.alloc _) 236 zeroS Z4.o) Z1.o Z2.o Z3.o ?_
     generalize hG:World.setRow _ _ _=W1;obtain ⟨W0,vo,T1,B1,R1,S1⟩:=Ox w s;obtain rfl:W0=W1:=vo.symm.trans hG;clear vo;have c1:W0.cell? ⟨g,73,none⟩=some (.int .i64 (s.n:Int)):=(B1.o.cell (p:=⟨g,73,none⟩) xc.o).trans DN.o;clear hG)
  | (go_at_call 171;refine (Bj s.n hn _).mono ?_;rintro e1 w2 ⟨gp,cap,rfl,H2⟩
     have T2:Hid (mH w2 (w.heap.size+1) s):=Has.kept T1.o H2.o.2.2.2 (Has.inside T1.o);have B2:Hid (qW w w2):=B1.o.trans (H2.o.2.2.2.mono B1.o.size);have R2:Hid (Has w2 w.heap.size 81 (bvec (List.replicate 32 0))):=Has.kept R1.o H2.o.2.2.2 (Has.inside R1.o);have D2:Hid (gp≠w.heap.size+1/\gp≠w.heap.size):=by have h1:=H2.o.1;have h2:=S1.o;exact ⟨by omega,by omega⟩
     have E2:Hid (Tab w2):=HT.o.kept B2.o V3.o)
  | (go_at_call 116;refine (pI (w.heap.size+1) s gp 0 (padL s.n).length cap _ (padL s.n) w2 HK.o T2.o (Nat.succ_ne_zero _) E2.o rfl H2.o.2.1 (Vg hn y7.o) H2.o.2.2.1 D2.o.1 (fun _=>rfl)).mono ?_;rintro e3 w3 ⟨rfl,T3,G3⟩
     have HF:Hid (feed s (padL s.n)).Ok:=yZ _ _ HK.o;have RW:=hid (uQ T3 HF.o);have B3:Hid (qW w w3):=B2.o.trans (sY G3 (Nat.le_succ _) B2.o.size);have R3:Hid (Has w3 w.heap.size 81 (bvec (List.replicate 32 0))):=Has.grw R2.o G3 (Nat.ne_of_lt (Nat.lt_succ_self _));have S3:Hid (w.heap.size < w3.heap.size):=Has.inside R3.o;have Z5:Hid ((Tryz.prog.info? 232).map (·.size)=some ((feed s (padL s.n)).ws.map fA).length):=Iv HF.o.1;clear T3 G3)
  | (refine wpList_store_row rfl 81 (.tmp 4) (.tmp 26) rfl w3.heap.size zero32 rfl rfl 81 zero32 (Has.fresh w3 81 zero32) er rfl Kf.o ?_
     generalize hG:World.setRow _ _ _=W5;obtain ⟨W6,vo,B5,R5,N5,RW5⟩:=Zc w w3 w.heap.size _ B3 R3 RW;obtain rfl:W6=W5:=vo.symm.trans hG;clear vo hG)
  | (refine wpList_load_mid rfl 232 (.tmp 27) rfl (w.heap.size+1) 1 rfl ((feed s (padL s.n)).ws.map fA) _ (RW5.o (Wv HF.o.1)) Tryz.underlying232 rfl Z5.o ?_))
 obtain ⟨N,HN⟩:∃N,Hid (N=w3.heap.size):=⟨_,rfl⟩;obtain ⟨ws,HW⟩:=qX ((feed s (padL s.n)).ws);rw [HW.o,<-HN.o];have US:=Jv ws (by rw [<-HW.o];exact HF.o.1);clear RW RW5 B2 R2 H2 T2 D2 E2 T1 B1 R1 S1 c1 Z5;go_loopw [29] (fun i wr=>∃k:Nat,k<=8/\i=.int .i64 (k:Int)/\Hid (Has wr N 81 (bvec (jM ws k)))/\Hid (Has wr w.heap.size 81 (bvec (List.replicate 32 0)))/\Hid (qW w wr))
  (fun i _=>8 - (intOf i).toNat)
 case atStart =>
  refine ⟨0,by omega,rfl,?_,R5,B5⟩;rw [HN.o];exact N5
 obtain ⟨k,hk,rfl,J1,J2,J3⟩:=hrel;have hNn:Hid (w.heap.size < N):=by show _ < _;rw [HN.o];exact S3.o
 by_cases d8:k < 8
 .
  obtain ⟨q0,e0,E0⟩:∃q:Nat,4*(k:Int)=(q:Int)/\Hid (4*k=q):=⟨4*k,by omega,rfl⟩;have hi1:=US k d8;have f3:=J1.o.free;have hl:Hid ((jM ws k).length=32):=uF ws k;have d0:=(J1.o.at_ q0).trans (fL _ q0 (by rw [hl.o];have:=E0.o;omega));have d1:=(J1.o.at_ (q0+1)).trans (fL _ (q0+1) (by rw [hl.o];have:=E0.o;omega));have d2:=(J1.o.at_ (q0+2)).trans (fL _ (q0+2) (by rw [hl.o];have:=E0.o;omega));have d3:=(J1.o.at_ (q0+3)).trans (fL _ (q0+3) (by rw [hl.o];have:=E0.o;omega));have g4:(q0:Int)+3 < 32:=by have:=E0.o;omega
  have n0:(0:Int)<=(q0:Int):=by omega
  clear US;go_wp2;go_roundw
  case rel =>
   refine ⟨k+1,by omega,by go_num,?_,?_,?_⟩
   .
    have b0:=nA (at32 ws k) 24;have b1:=nA (at32 ws k) 16;have b2:=nA (at32 ws k) 8;have b3:=nA (at32 ws k) 0;simp only [show (2:Int) ^ 24=16777216 from rfl,show (2:Int) ^ 16=65536 from rfl,show (2:Int) ^ 8=256 from rfl,Int.pow_zero,Int.ediv_one] at b0 b1 b2 b3;rw [b0,b1,b2,b3];have h:=(((Has.put J1.o q0 (V8 (byteOf (at32 ws k) 24))).put (q0+1) (V8 (byteOf (at32 ws k) 16))).put (q0+2) (V8 (byteOf (at32 ws k) 8))).put (q0+3) (V8 (byteOf (at32 ws k) 0));have e:jM ws (k+1)=((((jM ws k).set q0 (byteOf (at32 ws k) 24)).set (q0+1) (byteOf (at32 ws k) 16)).set (q0+2) (byteOf (at32 ws k) 8)).set (q0+3) (byteOf (at32 ws k) 0):=by
     rw [jM,E0.o]
    rw [e,<-lO,<-lO,<-lO,<-lO];exact h
   . have j3:w.heap.size≠N:=by have:=hNn.o;omega
     exact (((Has.other (p:=⟨N,q0,none⟩) J2.o j3 _).other (p:=⟨N,q0+1,none⟩) j3 _).other (p:=⟨N,q0+2,none⟩) j3 _).other (p:=⟨N,q0+3,none⟩) j3 _
   have p5:w.heap.size<=N:=by have:=hNn.o;omega
   exact (((J3.o.setCell (p:=⟨N,q0,none⟩) p5 _).setCell (p:=⟨N,q0+1,none⟩) p5 _).setCell (p:=⟨N,q0+2,none⟩) p5 _).setCell (p:=⟨N,q0+3,none⟩) p5 _
  case measure=>simp [intOf];omega
 obtain rfl:k=8:=by omega
 have Z8:Hid ((Tryz.prog.info? 81).map (·.size)=some (bvec (jM ws 8)).size):=by rw [kK,uF];exact er
 have Z9:Hid ((bvec (List.replicate 32 0)).size=(bvec (jM ws 8)).size):=by rw [kK,kK,uF];rfl
 clear US;go_wp2_with (first
  | (refine wpList_load_row rfl 81 (.tmp 4) rfl N rfl 81 (bvec (jM ws 8)) (0,0) _ J1.o Tryz.underlying81 rfl Z8.o ?_)
  | (refine wpList_store_row rfl 81 (.tmp 2) (.tmp 60) rfl w.heap.size (bvec (jM ws 8)) rfl rfl 81 _ J2.o Z8.o Z9.o (pS _) ?_))
 refine bodyPost_ret (results_cell_row rfl _ _ w.heap.size 81 (bvec (jM ws 8)) (0,0) _ rfl J2.o.row Tryz.underlying81 rfl Z8.o) rfl ⟨?_,J3.o.rowK qN _⟩;rw [Pq,HW.o]
def lE (xs:List UInt8):List UInt8:=Pq (feed jF xs)
def ax (w w1:World) (g:Nat) (h:Hid ((w.alloc (.cells zero32 81)).heap.size<=g)) (hb:Hid (Below (w.alloc (.cells zero32 81)).heap.size (w.alloc (.cells zero32 81)) w1)) (hp:Hid (0 < w.heap.size)) :
 Hid (qW w w1)/\Hid (Has w1 w.heap.size 81 zero32)/\Hid (w.heap.size < g)/\Hid (g≠0):=by
 have h1:=h.o;have h2:=hp.o;simp at h1;refine ⟨(qB.alloc qN _).trans (hb.o.mono (by simp)),(Has.fresh w 81 zero32).kept hb.o (by simp),?_,?_⟩
 . show _ < _;omega
 show _≠_;omega
def Vd (w w1 w2:World) (g:Nat) (h1:Hid (qW w w1)) (h2:Hid (Has w1 w.heap.size 81 zero32)) (h3:Hid (w.heap.size < g)) (hg:dG g w1 w2) :
 Hid (qW w w2)/\Hid (Has w2 w.heap.size 81 zero32):=by
 have:=h3.o;exact ⟨h1.o.trans (sY hg (by omega) h1.o.size),Has.grw h2.o hg (by omega)⟩
def Fo (xs:List UInt8) {len:Nat} (h:xs.length=len) (hb:len<=1099511627776):(feed jF xs).n<=1099511627776:=by
 rw [Bz];show 0+_<=_;omega
def Df (l:List UInt8) (h:l.length=32):Hid ((Tryz.prog.info? 81).map (·.size)=some (bvec l).size):=by show _=_;rw [kK,h];exact er
def zK (l:List UInt8) (h:l.length=32):Hid (zero32.size=(bvec l).size):=by show _=_;rw [kK,h];rfl
def yS (s:SS):(Pq s).length=32:=uF _ _
def yV (bb off len cap:Nat) (A:Option Addr) (xs:List UInt8) (w:World) (hT:Tab w) (um:bb < w.heap.size)
 (IN:xs.length=len) (xa:len<=cap) (DK:len<=1099511627776) (V5:∀j,j < len->w.cell? ⟨bb,off+j,none⟩=some (.int .u8 (b8 (at8 xs j)))) (hA:0 < len->A=some ⟨bb,off,none⟩) :
 qC 69 #[.slice A len cap] w fun e w'=>e=.returned (.agg (bvec (lE xs)))/\qW w w':=by
 have H1:=hid hT;have H2:=hid IN;have H3:=hid V5;have H4:=hid hA;have H5:=hid um;have HI:=hid hT.pos;have H6:Hid ((0:Nat)+len<=4611686018427387904):=by show _<=_;omega
 have Y1:=Df (lE xs) (yS _);have Y2:=zK (lE xs) (yS _);clear hT IN V5 hA um;go_enter Tryz.func69,Tryz.ntmps69
 go_wp2_with (first
  | (go_at_call 115;refine (Zb _).mono ?_;rintro e1 w1 ⟨g,hg,rfl,O8,c8⟩
     obtain ⟨B1,R1,G1,G0⟩:=ax w w1 g hg c8 HI;have T1:Hid (Tab w1):=H1.o.kept B1.o HI.o;have S1:=hid O8;have M1:Hid (∀j,j < len->w1.cell? ⟨bb,off+j,none⟩=some (.int .u8 (b8 (at8 xs j)))):=fun j hj=>(B1.o.cell (p:=⟨bb,off+j,none⟩) H5.o).trans (H3.o j hj)
     have NE:Hid (bb≠g):=Nat.ne_of_lt (Nat.lt_trans H5.o G1.o);clear hg c8 O8)
  | (go_at_call 116;refine (pI g jF bb off len cap A xs w1 Ij S1.o G0.o T1.o H2.o xa H6.o M1.o NE.o H4.o).mono ?_;rintro e2 w2 ⟨rfl,mj,mn⟩
     obtain ⟨B2,R2⟩:=Vd w w1 w2 g B1 R1 G1 mn;have T2:Hid (Tab w2):=H1.o.kept B2.o HI.o;have S2:=hid mj;clear mn mj)
  | (go_at_call 117;refine (Xg g (feed jF xs) w2 (yZ _ _ Ij) S2.o (Fo xs H2.o DK) T2.o).mono ?_;rintro e3 w3 ⟨rfl,i7⟩
     have B3:Hid (qW w w3):=B2.o.trans (i7.mono B2.o.size);have R3:Hid (Has w3 w.heap.size 81 zero32):=Has.kept R2.o i7 (Has.inside R2.o);clear i7)
  | (refine wpList_store_row rfl 81 (.tmp 2) (.tmp 9) rfl w.heap.size (bvec (lE xs)) rfl rfl 81 zero32 R3.o Y1.o Y2.o (pS _) ?_))
 refine bodyPost_ret (results_cell_row rfl _ _ w.heap.size 81 (bvec (lE xs)) (0,0) _ rfl R3.o.row Tryz.underlying81 rfl Y1.o) rfl ⟨rfl,B3.o.rowK qN _⟩
end Go.Proofs.YtahkcemdbfjilaaGreatDoor.Sha
namespace Go.Proofs.YtahkcemdbfjilaaGreatDoor
open Go.RowKit
def hvec (l:List UInt8):Array Value:=(l.map V8).toArray
def nP (l:List UInt8):(hvec l).size=l.length:=by simp [hvec]
@[irreducible] def dg (xs:List UInt8):List UInt8:=Sha.lE xs
def Ri (xs:List UInt8):(dg xs).length=32:=by unfold dg;exact Sha.yS _
def yV (v:Value) (xs:List UInt8) (A:Option Addr) (cap bb off:Nat) (w:World) (hT:Sha.Tab w) (h:Bytes w v xs A cap bb off) (hl:xs.length<=1000000) :
 qC 69 #[v] w fun e w'=>e=.returned (.agg (hvec (dg xs)))/\qW w w':=by
 have e0:=h.form;rw [e0];have:=Sha.yV bb off xs.length cap A xs w hT h.blk rfl h.le (by omega) (fun j hj=>h.cells j hj) h.src;refine this.mono ?_;rintro e w' ⟨rfl,hb⟩;refine ⟨?_,hb⟩;unfold dg;rfl
def jc:(Tryz.prog.info? 81).map (fun i=>(i.zero,i.size,i.bytes))=some (some (.agg (hvec (List.replicate 32 0))),32,32):=by kernel_rfl
def hcells (hs:List (List UInt8)):List Value:=hs.flatMap fun l=>l.map V8
def Gv (hs:List (List UInt8)) (h:List UInt8):hcells (hs++[h])=hcells hs++h.map V8:=by simp [hcells]
structure Dgs (B:Nat) (w:World) (v:Value) (hs:List (List UInt8)):Prop where
 own:w.ownsRow B 81 32 v hs.length (hcells hs)
 len:∀h∈hs,h.length=32
def Dgs.nil (B:Nat) (w:World):Dgs B w (.slice none 0 0) []:=⟨World.ownsRow_nil _ _ _ _,fun _ h=>by cases h⟩
def Dgs.mono {B B':Nat} {w:World} {v:Value} {hs:List (List UInt8)} (h:Dgs B w v hs) (hb:B'<=B):Dgs B' w v hs:=by
 refine ⟨⟨h.own.1,?_⟩,h.len⟩;rcases h.own.2 with ⟨h1,h2⟩ | ⟨g,c,cur,h1,h2,h3⟩
 . exact .inl ⟨h1,h2⟩
 exact .inr ⟨g,c,cur,h1,Nat.le_trans hb h2,h3⟩
def Dgs.grown {B:Nat} {w w':World} {row:Option Nat} {v:Value} {hs:List (List UInt8)} (h:Dgs B w v hs) (hg:w.grownBy w' row) (j3:v.ownBlock=none∨v.ownBlock≠row):Dgs B w' v hs:=⟨h.own.kept hg j3,h.len⟩
def Dgs.kept {B C:Nat} {w w':World} {v:Value} {hs:List (List UInt8)} (h:Dgs B w v hs) (hb:Below C w w') (hC:w.heap.size<=C):Dgs B w' v hs :=
 h.grown (row:=none) ⟨hb.os,hb.tape,hb.output,hb.size,fun i hi _=>hb.block i (Nat.lt_of_lt_of_le hi hC)⟩ (by cases v.ownBlock<;>simp)
def Dgs.form {B:Nat} {w:World} {v:Value} {hs:List (List UInt8)} (h:Dgs B w v hs):∃A c,v=.slice A hs.length c:=by
 rcases h.own.2 with ⟨h1,h2⟩ | ⟨g,c,cur,h1,_⟩
 . exact ⟨none,0,by rw [h1,h2]⟩
 exact ⟨_,_,h1⟩
def Zs (hs:List (List UInt8)) (hl:∀h∈hs,h.length=32) (k:Nat) (hk:k < hs.length) (j:Nat) (hj:j < 32):(hcells hs)[k*32+j]? = ((hs[k]).map V8)[j]?:=by
 induction hs generalizing k with
 | nil=>simp at hk
 | cons a t ih =>
  have ha:=hl a (by simp);have e:hcells (a :: t)=a.map V8++hcells t:=by simp [hcells]
  rw [e]
  cases k with
  | zero=>rw [List.getElem?_append_left (by simp [ha];omega)];simp
  | succ k =>
   rw [List.getElem?_append_right (by simp [ha];omega)];rw [show (k+1)*32+j - (a.map V8).length=k*32+j by simp [ha];omega];exact ih (fun h hh=>hl h (by simp [hh])) k (by simpa using hk)
def Dv (w:World) (h:List UInt8) (hl:h.length=32) :
 (Instr.buildSlice 56 1 #[(0,Value.agg (hvec h))]).run Tryz.prog w=.ok (.slice (some ⟨w.heap.size,0,none⟩) 1 1) (w.alloc (.cells (hvec h) 81)):=by
 have hI:(Tryz.prog.info? 81).map (fun i=>(i.size,i.zero))=some (32,some (.agg (hvec (List.replicate 32 0)))):=by kernel_rfl
 cases hie:Tryz.prog.info? 81 with
 | none=>rw [hie] at hI;cases hI
 | some ie =>
  rw [hie] at hI;simp only [Option.map_some,Option.some.injEq,Prod.mk.injEq] at hI;refine run_buildSlice (P:=Tryz.prog) w 56 81 1 _ _ ie _ Tryz.underlying56 hie hI.2 (by rw [hI.1];omega) (by rw [hI.1];omega) ?_;rw [hI.1];refine (Great.fill_whole (s:=32) (by omega) [Value.agg (hvec h)] _ (fun v hv=>?_) (by simp)).trans (by simp [Value.cells]);simp only [List.mem_singleton] at hv;subst hv;show (hvec h).size=32
  rw [nP,hl]
def oE {ops:Array Oper} {Q:Exit->Act->World->Prop} {a:Act} {w:World} {rest:List Oper} {o:Oper} (hw:Region.wanted o (yielded ops a.tmps)=true)
 (x:Operand) (ho:o.op=.buildSlice 56 1 #[(0,x)]) (d:List UInt8) (hx:a.eval x=.agg (hvec d)) (hl:d.length=32)
 (h:wpList Tryz.prog ops Q rest (a.put o.dst (.slice (some ⟨w.heap.size,0,none⟩) 1 1)) (w.alloc (.cells (hvec d) 81))):wpList Tryz.prog ops Q (o :: rest) a w :=
 eV hw fun _ hK=>by
  unfold Oper.wp execOp;simp only [ho,Sem.run_bind,List.map_toArray,List.map_cons,List.map_nil,hx,Dv w d hl,Result.andThen_ok];exact hK _ _ h
def zF (w:World) (B:Nat) (v:Value) (hs:List (List UInt8)) (h:Dgs B w v hs) (d:List UInt8) (hd:d.length=32) (a:Addr) (ha:∀j,j < 32->w.cell? (a.add j)=some (V8 (at8 d j))) (hn:hs.length<=100000) (hB:B<=w.heap.size) (ty:TypeId) :
 ∃v' w',(Builtin.append_ #[56,56] ty #[v,.slice (some a) 1 1]).run Tryz.prog w=.ok v' w'/\Dgs B w' v' (hs++[d])/\w.grownBy w' v.ownBlock:=by
 obtain ⟨i0,hi,o7,g8,j5⟩:=info_parts jc;obtain ⟨v',w',hr,ho,hg,_,_⟩:=run_append_own_at (P:=Tryz.prog) w B 56 ty 81 i0 _ 32 32 Tryz.underlying56 hi o7 g8 j5 (by simp [Value.cells,hvec]) (by omega) v hs.length (hcells hs) h.own a 1 1 (d.map V8) (by simp [hd])
  (fun j u hj=>by obtain ⟨h1,rfl⟩:=tY hj;exact ha j (by omega)) (xO d) (by unfold maxLen;omega) (by omega) hB
 refine ⟨v',w',hr,⟨?_,?_⟩,hg⟩
 . rw [Gv,List.length_append];exact ho
 intro h' hh;rcases List.mem_append.1 hh with h1 | h1
 . exact h.len _ h1
 simp only [List.mem_singleton] at h1;rw [h1];exact hd
def cG (xs:List UInt8) (k:Nat):List (List UInt8):=(List.range k).map fun i=>dg (dY xs i)
def hashes (xs:List UInt8):List (List UInt8):=cG xs (gA xs.length)
def pR (xs:List UInt8) (k:Nat):(cG xs k).length=k:=by simp [cG]
def uH (xs:List UInt8) (k:Nat):cG xs (k+1)=cG xs k++[dg (dY xs k)]:=by simp [cG,List.range_succ]
def Lj (xs:List UInt8):(hashes xs).length=gA xs.length:=pR _ _
def Rx (xs:List UInt8) (k:Nat) (h:k < gA xs.length) (hx:xs.length<=4096):kY xs (k:Int)=dY xs k:=by
 rw [kY,if_neg (by rw [pH _ hx];omega)];rfl
def vV (xs:List UInt8) (k:Nat):(dY xs k).length<=128:=by
 rw [dY,List.length_take];have:=fJ xs.length;omega
def Tv (v:Value) (xs:List UInt8) (A:Option Addr) (cap bb off:Nat) (w:World) (hT:Sha.Tab w) (h:Bytes w v xs A cap bb off) (hl:xs.length<=4096) :
 qC 28 #[v] w fun e w'=>∃v',e=.returned (.tuple #[v',.int .i64 0])/\Dgs w.heap.size w' v' (hashes xs)/\qW w w':=by
 have e0:=h.form;obtain ⟨n,HN⟩:=qX (xs.length);obtain ⟨c,HC⟩:=qX (gA n);have uj:=tX n (by rw [<-HN.o];exact hl);rw [HC.o] at uj;have C1:=hid (zS (n:Int));rw [pH n (by rw [<-HN.o];exact hl),HC.o] at C1;have HV:Hid (hashes xs=cG xs c):=by show _=_;rw [hashes,HN.o,HC.o]
 have HP:Hid (∀k:Nat,k < c->kY xs (k:Int)=dY xs k):=fun k hk=>Rx xs k (by rw [HN.o,HC.o];exact hk) hl
 have HB:=hid h;have HT:=hid hT;have xg:=hid hT.pos;have h1:¬(4096:Int) < (n:Int):=by rw [<-HN.o];omega
 rw [HN.o] at e0;rw [e0] at HB ⊢;clear h e0 hl hT;go_enter Tryz.func28,Tryz.ntmps28
 go_wp2_with (go_at_call 68;refine (C1.o _).mono ?_;rintro e1 w1 ⟨rfl,rfl⟩)
 go_loopw [4,5,12] (fun v4 _ xf wr=>∃k:Nat,k<=c/\xf=.int .i64 (k:Int)/\Hid (Dgs w.heap.size wr v4 (cG xs k))/\Hid (qW w wr)) (fun _ _ xf _=>c - (intOf xf).toNat)
 case atStart=>exact ⟨0,by omega,rfl,Dgs.nil _ _,Below.refl _ _⟩
 obtain ⟨k,hk,rfl,J1,J2⟩:=hrel;by_cases d8:k < c
 .
  have j4:(k:Int) < (c:Int):=by omega
  have w1:IntKind.i64.wrap ((k:Int)+1)=(k:Int)+1:=aM _ (by omega) (by omega);have HBk:=hid (HB.o.kept J2.o qN);have CP:=hid (Yc _ xs A cap bb off (k:Int) wr HBk.o);rw [HP.o k d8] at CP;obtain ⟨d,HD⟩:=qX (dg (dY xs k));have nh:Hid (d.length=32):=by show _=_;rw [<-HD.o];exact Ri _
  have M6:Hid (cG xs (k+1)=cG xs k++[d]):=by show _=_;rw [uH,HD.o]
  have G5:=hid (vV xs k);go_wp2_with (first
   | (go_at_call 70;refine CP.o.mono ?_;rintro e2 w2 ⟨v2,rfl,po,a9⟩
      obtain ⟨A2,c2,b2,mu,_,_⟩:=po.bytes (Nat.lt_of_lt_of_le (Nat.lt_of_lt_of_le xg.o J2.o.size) a9.size);have B2:Hid (qW w w2):=J2.o.trans (a9.mono J2.o.size);have D2:Hid (Dgs w.heap.size w2 u4 (cG xs k)):=J1.o.kept a9 qN;have Y2:=hid mu;clear po a9 mu)
   | (go_at_call 69;refine (yV _ _ _ _ _ _ _ (HT.o.kept B2.o xg.o) Y2.o (Nat.le_trans G5.o (by omega))).mono ?_;rintro e3 w3 ⟨rfl,i7⟩
      rw [HD.o];have B3:Hid (qW w w3):=B2.o.trans (i7.mono B2.o.size);have D3:Hid (Dgs w.heap.size w3 u4 (cG xs k)):=D2.o.kept i7 qN;have AP:=hid (zF (w3.alloc (.cells (hvec d) 81)) w.heap.size u4 (cG xs k) (D3.o.kept (qB.alloc qN _) qN) d nh.o ⟨w3.heap.size,0,none⟩ (fun j hj=>by rw [bY,Nat.zero_add,(Has.fresh w3 81 (hvec d)).at_ j,hvec,List.getElem?_toArray];exact yR (by rw [nh.o];exact hj)) (by rw [pR];omega) (by have:=B3.o.size;simp;omega) 56);obtain ⟨v5,w5,i6,NZ,r8⟩:=AP.o;have R5:=hid i6;have D5:Hid (Dgs w.heap.size w5 v5 (cG xs (k+1))):=by show Dgs _ _ _ _;rw [M6.o];exact NZ
      have B5:Hid (qW w w5):=(B3.o.alloc B3.o.size (.cells (hvec d) 81)).grown r8 (by have:=B3.o.size;simp;omega) (fun g hg=>(D3.o.own.lt g hg).1);clear i7 AP i6 NZ r8)
   | (refine oE (by rfl) (.tmp 19) rfl d rfl nh.o ?_)
   | (refine wpList_append_run rfl (.tmp 15) (.tmp 20) 56 56 rfl ⟨_,_,R5.o,?_⟩))
  go_roundw
  case rel=>exact ⟨k+1,by omega,by go_num,D5.o,B5.o⟩
  case measure=>simp [intOf];omega
 obtain rfl:k=c:=by omega
 go_wp2;go_ret2;exact ⟨_,rfl,by rw [HV.o];exact J1.o,J2.o⟩
def argE:Eff->Int
 | .write p _ t=>if mayB p then (if cS t then 0 else 2) else 10
 | .append p _=>if mayB p then 0 else 10
 | .mkdir p=>if mayB p then 0 else 10
 | .link p g t=>if mayB p then (if cS t&&decide (1<=g.length)&&decide (g.length<=160) then 0 else 2) else 10
 | .rename a b=>if mayB a&&mayB b then (if b=a∨withinB b a=true then 2 else 0) else 10
 | .remove p=>if mayB p then 0 else 10
def cR (room:Nat) (L:Tr):Eff->Int × Tr
 | .write p d t=>if cI L p=0 then (if dV L p=0 then cK room L p ⟨1,d,[],t⟩ else (dV L p,L)) else (cI L p,L)
 | .append p d=>match look L p with | some n=>if dV L p=0 then cK room L p ⟨n.kind,n.data++d,n.target,n.time⟩ else (dV L p,L) | none=>(5,L)
 | .mkdir p=>eR room L p ⟨2,[],[],0⟩
 | .link p g t=>eR room L p ⟨3,[],g,t⟩
 | .rename a b=>if (look L a).isSome then (if cI L b=0 then (if kindP L b=2∨(kindP L a=2/\(look L b).isSome) then (12,L) else if Wl b (innerL L a) then (0,mvAll L a b (innerL L a)) else (10,L)) else (cI L b,L)) else (5,L)
 | .remove p=>if (look L p).isSome then (if innerL L p=[] then (0,del L p) else (22,L)) else (5,L)
def kT (room:Nat) (L:Tr) (x:Eff):aK room L x=if argE x=0 then cR room L x else (argE x,L):=by
 cases x with
 | write p d t =>
  by_cases h0:mayB p=true
  . by_cases h1:cS t=true
    . have ha:argE (.write p d t)=0:=by simp only [argE,if_pos h0,if_pos h1]
      rw [if_pos ha];simp only [aK,cR,if_pos h0,if_pos h1]
    have ha:argE (.write p d t)=2:=by simp only [argE,if_pos h0,if_neg h1]
    rw [if_neg (by rw [ha];decide),ha];simp only [aK,if_pos h0,if_neg h1]
  have ha:argE (.write p d t)=10:=by simp only [argE,if_neg h0]
  rw [if_neg (by rw [ha];decide),ha];simp only [aK,if_neg h0]
 | append p d =>
  by_cases h0:mayB p=true
  . have ha:argE (.append p d)=0:=by simp only [argE,if_pos h0]
    rw [if_pos ha];simp only [aK,cR,if_pos h0]
    cases look L p<;>rfl
  have ha:argE (.append p d)=10:=by simp only [argE,if_neg h0]
  rw [if_neg (by rw [ha];decide),ha];simp only [aK,if_neg h0]
 | mkdir p =>
  by_cases h0:mayB p=true
  . have ha:argE (.mkdir p)=0:=by simp only [argE,if_pos h0]
    rw [if_pos ha];simp only [aK,cR,if_pos h0]
  have ha:argE (.mkdir p)=10:=by simp only [argE,if_neg h0]
  rw [if_neg (by rw [ha];decide),ha];simp only [aK,if_neg h0]
 | link p g t =>
  by_cases h0:mayB p=true
  . by_cases h1:(cS t&&decide (1<=g.length)&&decide (g.length<=160))=true
    . have ha:argE (.link p g t)=0:=by simp only [argE,if_pos h0,if_pos h1]
      rw [if_pos ha];simp only [aK,cR,if_pos h0,if_pos h1]
    have ha:argE (.link p g t)=2:=by simp only [argE,if_pos h0,if_neg h1]
    rw [if_neg (by rw [ha];decide),ha];simp only [aK,if_pos h0,if_neg h1]
  have ha:argE (.link p g t)=10:=by simp only [argE,if_neg h0]
  rw [if_neg (by rw [ha];decide),ha];simp only [aK,if_neg h0]
 | rename a b =>
  by_cases h0:(mayB a&&mayB b)=true
  . by_cases h1:b=a∨withinB b a=true
    . have ha:argE (.rename a b)=2:=by simp only [argE,if_pos h0,if_pos h1]
      rw [if_neg (by rw [ha];decide),ha];simp only [aK,if_pos h0,if_pos h1]
    have ha:argE (.rename a b)=0:=by simp only [argE,if_pos h0,if_neg h1]
    rw [if_pos ha];simp only [aK,cR,if_pos h0,if_neg h1]
  have ha:argE (.rename a b)=10:=by simp only [argE,if_neg h0]
  rw [if_neg (by rw [ha];decide),ha];simp only [aK,if_neg h0]
 | remove p =>
  by_cases h0:mayB p=true
  . have ha:argE (.remove p)=0:=by simp only [argE,if_pos h0]
    rw [if_pos ha];simp only [aK,cR,if_pos h0]
  have ha:argE (.remove p)=10:=by simp only [argE,if_neg h0]
  rw [if_neg (by rw [ha];decide),ha];simp only [aK,if_neg h0]
def Uc {room:Nat} {L:Tr} {x:Eff} (h:(aK room L x).1=0):argE x=0:=by
 rw [kT] at h;split at h
 . assumption
 exact absurd h ‹_›
def TG (L:Tr):Prop:=∀p n,look L p=some n->n.kind=1->n.target=[]
def TG.nil:TG []:=fun p n h=>by cases h
def TG.ins {L:Tr} (h:TG L) (p:By) {n:Nd} (hn:n.kind=1->n.target=[]):TG (bA p n L):=by
 intro q m hq hk;rw [gK] at hq;split at hq
 . injection hq with hq;subst hq;exact hn hk
 exact h q m hq hk
def TG.del {L:Tr} (h:TG L) (p:By):TG (del L p):=by
 intro q m hq hk;rw [dF] at hq;split at hq
 . cases hq
 exact h q m hq hk
def TG.put {L:Tr} (h:TG L) (room:Nat) (p:By) {n:Nd} (hn:n.kind=1->n.target=[]):TG (cK room L p n).2:=by
 unfold cK;split
 . exact h.ins p hn
 exact h
def TG.add {L:Tr} (h:TG L) (room:Nat) (p:By) {n:Nd} (hn:n.kind=1->n.target=[]):TG (eR room L p n).2:=by
 unfold eR;split
 . split
   . exact h
   exact h.put room p hn
 exact h
def TG.mv1 {T:Tr} (h:TG T) (a b:By):TG (mv1 T a b):=by
 unfold Go.Proofs.YtahkcemdbfjilaaGreatDoor.mv1;refine TG.del (TG.ins h b ?_) a
 cases hl:look T a with
 | none=>intro hk;cases hk
 | some n=>exact h a n hl
def TG.mvs {a b:By} (rs:List By):∀{T:Tr},TG T->TG (mvs a b T rs):=by
 induction rs with
 | nil=>intro T h;exact h
 | cons r rs ih=>intro T h;exact ih (h.mv1 _ _)
def TG.step {room:Nat} {L:Tr} (h:TG L) (x:Eff):TG (aK room L x).2:=by
 rw [kT];split
 .
  cases x with
  | write p d t =>
   simp only [cR];split
   . split
     . exact h.put _ _ (fun _=>rfl)
     exact h
   exact h
  | append p d =>
   simp only [cR];split
   . rename_i n hl
     split
     . exact h.put _ _ (h p n hl)
     exact h
   exact h
  | mkdir p=>exact h.add _ _ (fun k=>by cases k)
  | link p g t=>exact h.add _ _ (fun k=>by cases k)
  | rename a b =>
   simp only [cR];split
   .
    split
    . split
      . exact h
      split
      . exact TG.mvs _ ((h.del b).mv1 a b)
      exact h
    exact h
   exact h
  | remove p =>
   simp only [cR];split
   . split
     . exact h.del p
     exact h
   exact h
 exact h
structure lR (M:Mo):Prop where
 good:Good M
 t1:TG M.now
 t2:TG M.last
 args:∀x∈M.since,argE x=0
def lR.new (room:Nat):lR (newM room):=⟨Good.new room,TG.nil,TG.nil,fun x h=>by cases h⟩
def lR.do {M:Mo} (h:lR M) (x:Eff):lR (bL M x).2:=by
 refine ⟨h.good.do x,?_,?_,?_⟩<;>unfold bL<;>split
 . exact h.t1
 . split
   . exact h.t1.step x
   exact h.t1
 . exact h.t2
 . split<;>exact h.t2
 . exact h.args
 split
 .
  rename_i he
  intro y hy;rcases List.mem_append.1 hy with k | k
  . exact h.args y k
  rw [List.mem_singleton] at k;rw [k];exact Uc he
 exact h.args
end Go.Proofs.YtahkcemdbfjilaaGreatDoor
