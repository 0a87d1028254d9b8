/- Several texts in one. Conditions: those said at each. -/
import Derived.Test.YtahkcemdbfjilaaGreatDoorIt39
set_option linter.unusedSimpArgs false
set_option linter.unusedVariables false
set_option maxRecDepth 100000
namespace Go.Proofs.YtahkcemdbfjilaaGreatDoor
open Go.RowKit
def primeN (n:Nat):Bool:=(List.range 33).all fun e=>decide (e < 2)||decide (n < e*e)||!decide (n % e=0)
theorem primeYtahkcemdbfjilaaGreatDoorno {n d:Nat} (h1:2≤d) (h2:d*d≤n) (h3:d < 33) (h:n % d=0):primeN n=false:=by
 rw [primeN,List.all_eq_false];refine ⟨d,List.mem_range.2 h3,?_⟩;simp [h];omega
theorem primeYtahkcemdbfjilaaGreatDooryes {n d:Nat} (h2:n < d*d) (h:∀e,2≤e→e < d→n % e≠0):primeN n=true:=by
 rw [primeN,List.all_eq_true];intro e _;by_cases h1:e < 2
 · simp [h1]
 · by_cases h3:e < d
   · simp [h e (by omega) h3]
   · have:n < e*e:=Nat.lt_of_lt_of_le h2 (Nat.mul_le_mul (by omega) (by omega))
     simp [this]
set_option maxHeartbeats 400000 in
theorem prime_any (n:Nat) (h2:2≤n) (h3:n < 1000) (w:World):Calls Tryz.prog 234 #[.int .u64 (n:Int)] w fun e w'=>e=.returned (.bool (primeN n))∧w=w':=by
 have h1:(1:Int) < (n:Int):=by omega
 go_enter Tryz.func234,Tryz.ntmps234
 go_wp2;go_loopw [3] (fun v wr=>∃d:Nat,v=.int .u64 (d:Int)∧2≤d∧d≤33∧Hid (∀e,2≤e→e < d→n % e≠0)∧w=wr) (fun v _=>33 - (intOf v).toNat)
 case atStart=>exact ⟨2,rfl,by omega,by omega,fun e _ _=>by omega,rfl⟩
 case round =>
  obtain ⟨d,rfl,hd,hd2,HD,rfl⟩:=hrel;obtain ⟨z,HZ⟩:∃z,Hid (d*d=z):=⟨_,rfl⟩;have hz:z < 2000:=by rw [←HZ.out];exact Nat.lt_of_le_of_lt (Nat.mul_le_mul hd2 hd2) (by decide)
  have w1:IntKind.u64.wrap ((d:Int)*(d:Int))=(z:Int):=by
   have:=wrapM z;rw [Nat.mod_eq_of_lt (Nat.lt_trans hz (by decide)),←HZ.out] at this
   rw [←HZ.out,←this];congr 1
  obtain ⟨m,HM⟩:∃m,Hid (n % d=m):=⟨_,rfl⟩;have w2:(n:Int) % (d:Int)=(m:Int):=by rw [←HM.out];rfl
  have w3:(n:Int).tmod (d:Int)=(m:Int):=by rw [Int.tmod_eq_emod_of_nonneg (by omega)];exact w2
  by_cases c:z≤n
  · have c1:(z:Int)≤(n:Int):=by omega
    have hd33:d < 33:=by
     have:=HZ.out;rcases Nat.lt_or_ge d 33 with h | h
     · exact h
     · have:=Nat.mul_le_mul h h;omega
    by_cases hm:m=0
    · subst hm
      have HV:Hid (primeN n=false):=primeYtahkcemdbfjilaaGreatDoorno hd (by rw [HZ.out];exact c) hd33 HM.out
      go_wp2;go_ret;exact ⟨ret_bool HV.out.symm,rfl⟩
    · have t1:((m:Int) == 0)=false:=by simp;omega
      have HD2:Hid (∀e,2≤e→e < d+1→n % e≠0):=fun e h4 h5=>by
       rcases Nat.lt_or_ge e d with h | h
       · exact HD.out e h4 h
       · obtain rfl:e=d:=by omega
         rw [HM.out];exact hm
      clear hm;have w4:IntKind.u64.wrap ((d:Int)+1)=((d+1:Nat):Int):=by
       have:=wrapM (d+1);rw [Nat.mod_eq_of_lt (Nat.lt_trans (show d+1 < 40 by omega) (by decide))] at this
       rw [←this];congr 1
      go_wp2;go_roundw
      case rel=>exact ⟨d+1,by go_num,by omega,by omega,HD2,trivial⟩
      case measure=>simp [intOf];omega
  · have c1:¬(z:Int)≤(n:Int):=by omega
    have HV:Hid (primeN n=true):=primeYtahkcemdbfjilaaGreatDooryes (by rw [HZ.out];omega) HD.out
    go_wp2;go_ret;exact ⟨ret_bool HV.out.symm,rfl⟩
def pl (n:Nat):List Nat:=(List.range' 2 (n - 2)).filter primeN
def first64:List Nat:=[2,3,5,7,11,13,17,19,23,29,31,37,41,43,47,53,59,61,67,71,73,79,83,89,97,101,103,107,109,113,127,131,137,139,149,151,157,163,167,173,179,181,191,193,197,199,211,223,227,229,233,239,241,251,257,263,269,271,277,281,283,293,307,311]
theorem pl_all:pl 312=first64:=by decide +kernel
theorem pl_next (n:Nat) (h:2≤n):pl (n+1)=pl n++if primeN n then [n] else []:=by
 have e:n+1 - 2=(n - 2)+1:=by omega
 rw [pl,pl,e,List.range'_concat,List.filter_append];congr 1
 have e2:2+1*(n - 2)=n:=by omega
 rw [e2]
 cases hp:primeN n<;>simp [hp]
theorem pl_short:∀n,n < 312→(pl n).length < 64:=by decide +kernel
theorem cube_table:first64.map (fun p=>cuUp p 36 % 4294967296)=Sha.kList.map BitVec.toNat:=by decide +kernel
theorem square_table:(first64.take 8).map (fun p=>sqUp p 37 % 4294967296)=[0x6a09e667,0xbb67ae85,0x3c6ef372,0xa54ff53a,0x510e527f,0x9b05688c,0x1f83d9ab,0x5be0cd19]:=by decide +kernel
end Go.Proofs.YtahkcemdbfjilaaGreatDoor
namespace Go.Proofs.YtahkcemdbfjilaaGreatDoor
open Go.RowKit
def V64 (n:Nat):Value:=.int .u64 (n:Int)
theorem infoU64:(Tryz.prog.info? 266).map (fun i=>(i.zero,i.size,i.bytes))=some (some (.int .u64 0),1,8):=by kernel_rfl
theorem one_V64 (n:Nat):∀u∈[Value.int .u64 (n:Int)],u.oneCell'=true:=by
 intro u hu;rw [List.mem_singleton] at hu;subst hu;rfl
set_option maxHeartbeats 400000 in
theorem primes_any (w:World):Calls Tryz.prog 197 #[.int .i64 64] w fun e w'=>∃v,e=.returned v∧w'.ownsRow w.heap.size 266 1 v 64 (first64.map V64)∧Below w.heap.size w w':=by
 obtain ⟨i0,hi,hz0,hz1,hz2⟩:=info_parts infoU64;go_enter Tryz.func197,Tryz.ntmps197
 go_wp2;go_loopw [3,4] (fun v nv wr=>∃(n m:Nat),nv=.int .u64 (n:Int)∧2≤n∧n≤312∧m≤64∧Hid ((pl n).length=m)∧Hid (wr.ownsRow w.heap.size 266 1 v m ((pl n).map V64))∧Hid (Below w.heap.size w wr))
  (fun _ nv _=>312 - (intOf nv).toNat)
 case atStart=>exact ⟨2,0,rfl,by omega,by omega,by omega,rfl,World.ownsRow_nil _ _ _ _,Below.refl _ _⟩
 case round =>
  obtain ⟨n,m,rfl,hn,hn2,hm,HM,HO,HB⟩:=hrel;have hlen:∃A c,u3=.slice A m c:=by
   rcases HO.out.2 with ⟨rfl,h⟩ | ⟨g,c,_,rfl,_⟩
   · exact ⟨none,0,by rw [h]⟩
   · exact ⟨_,_,rfl⟩
  obtain ⟨A,c,rfl⟩:=hlen;by_cases hlt:n < 312
  · have hm2:m < 64:=by rw [←HM.out];exact pl_short n hlt
    have hm3:(m:Int) < 64:=by omega
    have w4:IntKind.u64.wrap ((n:Int)+1)=((n+1:Nat):Int):=by
     have:=wrapM (n+1);rw [Nat.mod_eq_of_lt (Nat.lt_trans (show n+1 < 400 by omega) (by decide))] at this
     rw [←this];congr 1
    have C:=hid (fun W=>prime_any n hn (by omega) W)
    cases hv:primeN n with
    | true =>
     rw [hv] at C;have HP:Hid (pl (n+1)=pl n++[n]):=by show _=_;rw [pl_next n hn,hv];rfl
     have N2:Hid (m+1≤maxLen):=by show _≤_;unfold maxLen;omega
     have N3:Hid ((m+1)*8≤140737488355328):=by show _≤_;omega
     have N4:Hid (∀o,w.heap.size≤(wr.alloc o).heap.size):=by intro o;have:=HB.out.size;simp;omega
     clear hv;go_wp2_with fail
     refine (C.out _).mono ?_;rintro e1 w1 ⟨rfl,rfl⟩;go_wp2_with (at_builtin;refine wpList_append_own _ rfl _ _ 262 rfl w.heap.size 266 i0 (.int .u64 0) 1 8 Tryz.underlying262 hi hz0 hz1 hz2 rfl (by omega) _ _ _ rfl (HO.out.alloc _) ⟨wr.heap.size,0,none⟩ 1 1 [Value.int .u64 (n:Int)] rfl rfl (cell_one_new _ _ _) (one_V64 n) N2.out N3.out (N4.out _) ?_;intro v' w1 hown' hgrow _)
     have HO2:Hid (w1.ownsRow w.heap.size 266 1 v' (m+1) ((pl (n+1)).map V64)):=by
      rw [HP.out,List.map_append];exact hown'
     have HM2:Hid ((pl (n+1)).length=m+1):=by show _=_;rw [HP.out,List.length_append,HM.out];rfl
     have HB2:Hid (Below w.heap.size w w1) :=
      ((HB.out.alloc HB.out.size _).grown hgrow (N4.out _) (fun g hg=>by
        have:=(HO.out.lt g hg).1;exact this))
     clear hown' hgrow;go_wp2;go_roundw
     case rel=>exact ⟨n+1,m+1,rfl,by omega,by omega,by omega,HM2,HO2,HB2⟩
     case measure=>simp [intOf];omega
    | false =>
     rw [hv] at C;have HP:Hid (pl (n+1)=pl n):=by show _=_;rw [pl_next n hn,hv];simp
     have HO2:Hid (wr.ownsRow w.heap.size 266 1 (.slice A m c) m ((pl (n+1)).map V64)):=by
      rw [HP.out];exact HO
     have HM2:Hid ((pl (n+1)).length=m):=by show _=_;rw [HP.out];exact HM.out
     clear hv;go_wp2_with fail
     refine (C.out _).mono ?_;rintro e1 w1 ⟨rfl,rfl⟩;go_wp2;go_roundw
     case rel=>exact ⟨n+1,m,rfl,by omega,by omega,by omega,HM2,HO2,HB⟩
     case measure=>simp [intOf];omega
  · obtain rfl:n=312:=by omega
    have e1:=HM.out;rw [pl_all] at e1;obtain rfl:m=64:=e1.symm;have HO2:=HO.out;rw [pl_all] at HO2;have HO3:=hid HO2;clear HO2 HO HM e1;go_wp2;go_ret;exact ⟨_,rfl,HO3.out,HB.out⟩
end Go.Proofs.YtahkcemdbfjilaaGreatDoor
namespace Go.Proofs.YtahkcemdbfjilaaGreatDoor.Sha
open Go.RowKit
def Row (w:World) (g:Nat) (l:List (BitVec 32)):Prop:=∃cur:Array Value,Has w g 53 cur∧cur.toList.take l.length=l.map V32
theorem Row.cell {w:World} {g:Nat} {l:List (BitVec 32)} (h:Row w g l) (i:Nat) (hi:i < l.length):w.cell? ⟨g,i,none⟩=some (.int .u32 (u (at32 l i))):=by
 obtain ⟨cur,h1,h2⟩:=h;rw [h1.at_ i,←Array.getElem?_toList];have:(cur.toList.take l.length)[i]? = (l.map V32)[i]?:=by rw [h2]
 rw [List.getElem?_take,if_pos hi] at this;rw [this,List.getElem?_map,List.getElem?_eq_getElem hi];simp [V32,at32,List.getD,List.getElem?_eq_getElem hi]
theorem Row.free {w:World} {g:Nat} {l:List (BitVec 32)} (h:Row w g l) (i:Nat):w.frozen? ⟨g,i,none⟩=false:=by
 obtain ⟨cur,h1,_⟩:=h;exact h1.free i
theorem Row.inside {w:World} {g:Nat} {l:List (BitVec 32)} (h:Row w g l):g < w.heap.size:=by
 obtain ⟨cur,h1,_⟩:=h;exact h1.inside
theorem Row.kept {w w':World} {B g:Nat} {l:List (BitVec 32)} (h:Row w g l) (hb:Below B w w') (hg:g < B):Row w' g l:=by
 obtain ⟨cur,h1,h2⟩:=h;exact ⟨cur,h1.kept hb hg,h2⟩
theorem Row.other {w:World} {g:Nat} {l:List (BitVec 32)} (h:Row w g l) {p:Addr} (hp:g≠p.block) (v:Value):Row (w.setCell p v) g l:=by
 obtain ⟨cur,h1,h2⟩:=h;exact ⟨cur,h1.other hp v,h2⟩
theorem Row.put {w:World} {g:Nat} {l:List (BitVec 32)} (h:Row w g l) (i:Nat) (x:BitVec 32):Row (w.setCell ⟨g,i,none⟩ (.int .u32 (u x))) g (l.set i x):=by
 obtain ⟨cur,h1,h2⟩:=h;refine ⟨_,h1.put i _,?_⟩;rw [List.length_set,Array.toList_setIfInBounds,List.take_set,h2,List.map_set];rfl
theorem Row.more {w:World} {g:Nat} {l:List (BitVec 32)} (h:Row w g l) (o:Obj):Row (w.alloc o) g l:=by
 obtain ⟨cur,h1,h2⟩:=h;exact ⟨cur,h1.more o,h2⟩
theorem Row.drawn {w:World} {g:Nat} {l:List (BitVec 32)} (h:Row w g l) (n:Nat):Row (w.drewN n) g l:=by
 obtain ⟨cur,h1,h2⟩:=h;exact ⟨cur,h1.drawn n,h2⟩
theorem row_own {w:World} {B n c:Nat} {A:Option Addr} {l:List (BitVec 32)} (hl:l.length=n) (hn:0 < n) (h:w.ownsRow B 53 1 (.slice A n c) n (l.map V32)):∃g,A=some ⟨g,0,none⟩∧Row w g l∧B≤g:=by
 rcases h.2 with ⟨_,h2⟩ | ⟨g,cap,cur,h1,h2,h3,_,_,_,h7⟩
 · omega
 · cases h1
   exact ⟨g,rfl,⟨cur,h3,by rw [hl,←h7,Nat.mul_one]⟩,h2⟩
def prm (i:Nat):Nat:=first64.getD i 0
theorem prm_lt:∀i,i < 64→prm i < 1000:=by decide
theorem cube_at (i:Nat) (h:i < 64):((cuUp (prm i) 36 % 4294967296:Nat):Int)=u (at32 kList i):=by
 have e:=congrArg (fun l=>l[i]?) cube_table
 have l1:i < first64.length:=h;have l2:i < kList.length:=h;simp only [List.getElem?_map,List.getElem?_eq_getElem l1,List.getElem?_eq_getElem l2,Option.map_some,Option.some.injEq] at e;unfold u prm at32;simp only [List.getD,List.getElem?_eq_getElem l1,List.getElem?_eq_getElem l2,Option.getD_some];rw [e]
theorem hTab:hList.map BitVec.toNat=[0x6a09e667,0xbb67ae85,0x3c6ef372,0xa54ff53a,0x510e527f,0x9b05688c,0x1f83d9ab,0x5be0cd19]:=by decide
theorem square_at (i:Nat) (h:i < 8):((sqUp (prm i) 37 % 4294967296:Nat):Int)=u (at32 hList i):=by
 have e:=congrArg (fun l=>l[i]?) square_table
 rw [←hTab] at e;have l1:i < (first64.take 8).length:=h;have l2:i < hList.length:=h;have l3:i < first64.length:=Nat.lt_trans h (by decide)
 simp only [List.getElem?_map,List.getElem?_eq_getElem l1,List.getElem?_eq_getElem l2,Option.map_some,Option.some.injEq,List.getElem_take] at e;unfold u prm at32;simp only [List.getD,List.getElem?_eq_getElem l3,List.getElem?_eq_getElem l2,Option.getD_some];rw [e]
theorem take_next (l:List (BitVec 32)) (i:Nat) (h:i < l.length):(l.take (i+1)).map V32=(l.take i).map V32++[.int .u32 (u (at32 l i))]:=by
 rw [List.take_succ_eq_append_getElem h,List.map_append,at32,List.getD,List.getElem?_eq_getElem h];rfl
theorem primes_cells {w:World} {B:Nat} {v:Value} (h:w.ownsRow B 266 1 v 64 (first64.map V64)):∃g c,v=.slice (some ⟨g,0,none⟩) 64 c∧g < w.heap.size∧B≤g∧∀i,i < 64→w.cell? ⟨g,i,none⟩=some (.int .u64 (prm i:Nat)):=by
 have hc:=fun g hg=>h.cells (g:=g) hg
 have hl:=fun g hg=>h.lt g hg
 rcases h.2 with ⟨_,h2⟩ | ⟨g,cap,cur,rfl,_⟩
 · omega
 · refine ⟨g,cap,rfl,(hl g rfl).2,(hl g rfl).1,fun i hi=>?_⟩
   have l1:i < first64.length:=hi;have:=hc g rfl i (.int .u64 (prm i:Nat)) (by simp [prm,V64,List.getD,List.getElem?_eq_getElem l1])
   have e:(⟨g,0,none⟩:Addr).add i=⟨g,i,none⟩:=by unfold Addr.add;split<;>simp_all
   rwa [e] at this
end Go.Proofs.YtahkcemdbfjilaaGreatDoor.Sha
namespace Go.Proofs.YtahkcemdbfjilaaGreatDoor.Sha
open Go.RowKit
structure Env (w:World) (g4 g5 gp:Nat) (st:List (BitVec 32)) (P:List UInt8) (wr:World):Prop where
 st:Row wr g4 st
 k:Row wr g5 kList
 res:Has wr w.heap.size 81 zero32
 p:∀j,j < P.length→wr.cell? ⟨gp,j,none⟩=some (V8 (at8 P j))
 pin:gp < wr.heap.size
 below:Below w.heap.size w wr
section
variable {w wr w':World} {g4 g5 gp N:Nat} {st:List (BitVec 32)} {P:List UInt8}
theorem Env.step (h:Env w g4 g5 gp st P wr) (hb:Below wr.heap.size wr w'):Env w g4 g5 gp st P w' :=
 ⟨h.st.kept hb h.st.inside,h.k.kept hb h.k.inside,h.res.kept hb h.res.inside,fun j hj=>(hb.cell (p:=⟨gp,j,none⟩) h.pin).trans (h.p j hj),Nat.lt_of_lt_of_le h.pin hb.size,h.below.trans (hb.mono h.below.size)⟩
theorem Env.put (h:Env w g4 g5 gp st P wr) (h4:g4≠N) (h5:g5≠N) (h0:w.heap.size < N) (hp:gp≠N) (i:Nat) (v:Value):Env w g4 g5 gp st P (wr.setCell ⟨N,i,none⟩ v) :=
 ⟨h.st.other (p:=⟨N,i,none⟩) h4 v,h.k.other (p:=⟨N,i,none⟩) h5 v,h.res.other (p:=⟨N,i,none⟩) (by show w.heap.size≠N;omega) v,
  fun j hj=>(World.cell?_setCell_other wr ⟨N,i,none⟩ ⟨gp,j,none⟩ v (fun e=>hp (by injection e;omega))).trans (h.p j hj),by simpa using h.pin,h.below.setCell (p:=⟨N,i,none⟩) (by show w.heap.size≤N;omega) v⟩
theorem Env.raise (h:Env w g4 g5 gp st P wr) (h5:g5≠g4) (h0:w.heap.size < g4) (hp:gp≠g4) (i:Nat) (x:BitVec 32):Env w g4 g5 gp (st.set i x) P (wr.setCell ⟨g4,i,none⟩ (.int .u32 (u x))) :=
 ⟨h.st.put i x,h.k.other (p:=⟨g4,i,none⟩) h5 _,h.res.other (p:=⟨g4,i,none⟩) (by show w.heap.size≠g4;omega) _,
  fun j hj=>(World.cell?_setCell_other wr ⟨g4,i,none⟩ ⟨gp,j,none⟩ _ (fun e=>hp (by injection e;omega))).trans (h.p j hj),by simpa using h.pin,h.below.setCell (p:=⟨g4,i,none⟩) (by show w.heap.size≤g4;omega) _⟩
theorem Env.drawn (h:Env w g4 g5 gp st P wr) (n:Nat):Env w g4 g5 gp st P (wr.drewN n) :=
 ⟨h.st.drawn n,h.k.drawn n,h.res.drawn n,fun j hj=>h.p j hj,h.pin,h.below.drewN' n⟩
theorem Env.more (h:Env w g4 g5 gp st P wr) (o:Obj):Env w g4 g5 gp st P (wr.alloc o):=h.step ((Below.refl _ _).alloc (Nat.le_refl _) _)
theorem bytes_owned {w:World} {B L:Nat} {v:Value} {P:List UInt8} (h0:0 < L) (h:w.ownsRow B 5 1 v L (P.map V8)):∃g c,v=.slice (some ⟨g,0,none⟩) L c∧L≤c∧B≤g∧g < w.heap.size∧∀j,j < P.length→w.cell? ⟨g,j,none⟩=some (V8 (at8 P j)):=by
 have hc:=fun g hg=>h.cells (g:=g) hg
 have hl:=fun g hg=>h.lt g hg
 rcases h.2 with ⟨_,h2⟩ | ⟨g,cap,cur,rfl,_,_,h5,_⟩
 · omega
 · refine ⟨g,cap,rfl,h5,(hl g rfl).1,(hl g rfl).2,fun j hj=>?_⟩
   have:=hc g rfl j (V8 (at8 P j)) (by rw [List.getElem?_map,List.getElem?_eq_getElem hj];simp [at8,List.getD,List.getElem?_eq_getElem hj])
   have e:(⟨g,0,none⟩:Addr).add j=⟨g,j,none⟩:=by unfold Addr.add;split<;>simp_all
   rwa [e] at this
structure Env0 (w:World) (g4 g5:Nat) (wr:World):Prop where
 st:Row wr g4 hList
 k:Row wr g5 kList
 res:Has wr w.heap.size 81 zero32
 below:Below w.heap.size w wr
theorem Env0.env (h:Env0 w g4 g5 wr) (hb:Below wr.heap.size wr w') (hp:gp < w'.heap.size) (hc:∀j,j < P.length→w'.cell? ⟨gp,j,none⟩=some (V8 (at8 P j))):Env w g4 g5 gp hList P w' :=
 ⟨h.st.kept hb h.st.inside,h.k.kept hb h.k.inside,h.res.kept hb h.res.inside,hc,hp,h.below.trans (hb.mono h.below.size)⟩
def w64 (p:List UInt8):List (BitVec 32):=(List.range 64).map (wAt (words p 16))
theorem w64_len (p:List UInt8):(w64 p).length=64:=by simp [w64]
theorem w64_at (p:List UInt8) (k:Nat) (h:k < 64):at32 (w64 p) k=wAt (words p 16) k:=by simp [w64,at32,List.getD,h]
theorem w64_row (p:List UInt8):wRow (words p 16) 64=(w64 p).map V32:=by simp [wRow,w64,V32]
theorem blk_bytes (h:Env w g4 g5 gp st P wr) (q c:Nat) (hq:64*(q+1)≤P.length) (hc:64≤c):Bytes wr (.slice (some ⟨gp,64*q,none⟩) 64 c) (blk P q) (some ⟨gp,64*q,none⟩) c gp (64*q):=by
 have hb:=blk_len P q hq;refine ⟨by rw [hb],by rw [hb];exact hc,(fun h=>by cases h),fun a ha j hj=>?_,h.pin,fun _=>rfl⟩
 cases ha
 rw [hb] at hj;have e:(⟨gp,64*q,none⟩:Addr).add j=⟨gp,64*q+j,none⟩:=by unfold Addr.add;split<;>simp_all
 rw [e,h.p (64*q+j) (by omega)]
 congr 2
 simp [at8,blk,List.getD,List.getElem?_drop,hj]
theorem run8_at (p:List UInt8) (s:S8) (k:Nat) (h:k < 64):run8 (words p 16) s (k+1)=stepS (run8 (words p 16) s k) (at32 kList k) (at32 (w64 p) k):=by
 rw [run8_word _ (words_len p 16),w64_at p k h]
end
def z8:Array Value:=#[.int .u32 0,.int .u32 0,.int .u32 0,.int .u32 0,.int .u32 0,.int .u32 0,.int .u32 0,.int .u32 0]
structure Env2 (w:World) (g4 g5 gp N g12:Nat) (st:List (BitVec 32)) (P:List UInt8) (W:List (BitVec 32)) (v:List (BitVec 32)) (wr:World):Prop where
 env:Env w g4 g5 gp st P wr
 row:Row wr g12 W
 v:Has wr N 232 (vec v)
theorem Env2.start {w w6:World} {g4 g5 gp g12:Nat} {st:List (BitVec 32)} {P:List UInt8} {W l:List (BitVec 32)} (h:Env w g4 g5 gp st P w6) (hr:Row w6 g12 W) (z:Array Value) (hz:z=z8) :
 ∃W7,w6.alloc (.cells z 232)=W7∧Env2 w g4 g5 gp w6.heap.size g12 st P W (copied l 0) W7:=by
 subst hz;exact ⟨_,rfl,h.more _,hr.more _,Has.fresh w6 232 z8⟩
theorem Env2.apart {w w6:World} {g4 g5 gp g12:Nat} {st:List (BitVec 32)} {P:List UInt8} {W:List (BitVec 32)} (h:Env w g4 g5 gp st P w6) (hr:Row w6 g12 W):g4≠w6.heap.size∧g5≠w6.heap.size∧w.heap.size < w6.heap.size∧gp≠w6.heap.size∧g12≠w6.heap.size:=by
 have h1:=h.st.inside;have h2:=h.k.inside;have h3:=h.res.inside;have h4:=h.pin;have h5:=hr.inside;exact ⟨by omega,by omega,by omega,by omega,by omega⟩
theorem Env2.put {w wr:World} {g4 g5 gp N g12:Nat} {st:List (BitVec 32)} {P:List UInt8} {W v:List (BitVec 32)} (h:Env2 w g4 g5 gp N g12 st P W v wr) (hd:g4≠N∧g5≠N∧w.heap.size < N∧gp≠N∧g12≠N) (i:Nat) (x:BitVec 32) :
 Env2 w g4 g5 gp N g12 st P W (v.set i x) (wr.setCell ⟨N,i,none⟩ (.int .u32 (u x))) :=
 ⟨h.env.put hd.1 hd.2.1 hd.2.2.1 hd.2.2.2.1 i _,h.row.other (p:=⟨N,i,none⟩) hd.2.2.2.2 _,by rw [←vec_set];exact h.v.put i _⟩
theorem Env2.drawn {w wr:World} {g4 g5 gp N g12:Nat} {st:List (BitVec 32)} {P:List UInt8} {W v:List (BitVec 32)} (h:Env2 w g4 g5 gp N g12 st P W v wr) (n:Nat):Env2 w g4 g5 gp N g12 st P W v (wr.drewN n) :=
 ⟨h.env.drawn n,h.row.drawn n,h.v.drawn n⟩
theorem Env2.raise {w wr:World} {g4 g5 gp N g12:Nat} {st:List (BitVec 32)} {P:List UInt8} {W v:List (BitVec 32)} (h:Env2 w g4 g5 gp N g12 st P W v wr) (h5:g5≠g4) (h0:w.heap.size < g4) (hp:gp≠g4) (h12:g12≠g4) (hN:N≠g4) (i:Nat) (x:BitVec 32) :
 Env2 w g4 g5 gp N g12 (st.set i x) P W v (wr.setCell ⟨g4,i,none⟩ (.int .u32 (u x))) :=
 ⟨h.env.raise h5 h0 hp i x,h.row.other (p:=⟨g4,i,none⟩) h12 _,h.v.other (p:=⟨g4,i,none⟩) hN _⟩
theorem last_box {w wr:World} {g4 g5 gp:Nat} {st:List (BitVec 32)} {P:List UInt8} (h:Env w g4 g5 gp st P wr) (z:Array Value) (hz:z=zero32) :
 ∃N W,wr.heap.size=N∧wr.alloc (.cells z 81)=W∧Hid (Row W g4 st)∧Hid (Has W w.heap.size 81 zero32)∧Hid (Has W N 81 (bvec (digN st 0)))∧Hid (Below w.heap.size w W)∧Hid (g4≠N∧w.heap.size < N):=by
 subst hz;exact ⟨_,_,rfl,rfl,h.st.more _,h.res.more _,Has.fresh wr 81 zero32,h.below.alloc h.below.size _,by have:=h.st.inside;omega,h.res.inside⟩
theorem add4 (a b c d:BitVec 32):(u a+u b+u c+u d) % 4294967296=u (a+b+c+d):=by rw [←Int.emod_add_emod,add3,add32]
theorem not32r (x:BitVec 32):bits .xor .u32 (u x) 4294967295=u (~~~x):=by
 have h:(4294967295:Int)=u (BitVec.allOnes 32):=rfl;rw [h,xor32,BitVec.xor_allOnes]
theorem sx_num2 (s:S8) (kk ww:BitVec 32) :
 (((u s.h+bits BinOp.xor IntKind.u32 (bits BinOp.xor IntKind.u32 (u (rotR s.e 6)) (u (rotR s.e 11))) (u (rotR s.e 25)) +
   bits BinOp.xor IntKind.u32 (bits BinOp.and IntKind.u32 (u s.e) (u s.f)) (bits BinOp.and IntKind.u32 (bits BinOp.xor IntKind.u32 (u s.e) 4294967295) (u s.g))+u kk) % 4294967296+u ww) % 4294967296)=u (sx s kk ww):=by
 simp only [xor32,and32,not32r,add4,add32];rfl
theorem turned_s (x:BitVec 32) (c:Int) (h:1≤c∧c≤31) (w:World) :
 Calls Tryz.prog 202 #[.int .u32 (u x),.int .i64 c] w fun e w'=>e=.returned (.int .u32 (u (rotR x c.toNat)))∧w'=w:=by
 obtain ⟨n,rfl⟩:=Int.eq_ofNat_of_zero_le (a:=c) (by omega)
 exact (turned_any x n (by omega) (by omega) w).mono fun _ _ ⟨h1,h2⟩=>⟨h1,h2.symm⟩
end Go.Proofs.YtahkcemdbfjilaaGreatDoor.Sha
