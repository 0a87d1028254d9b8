/- Several texts in one. Conditions: those said at each. -/
import Derived.StillTailTactics
import Derived.Test.YtahkcemdbfjilaaGreatDoorIt09
import Derived.Laws.CopyOwn
set_option linter.unusedSimpArgs false
set_option linter.unusedVariables false
set_option maxRecDepth 100000
namespace Go.Proofs.YtahkcemdbfjilaaGreatDoor.Sha
open Go.RowKit
def be4 (l:List UInt8) (k:Nat):BitVec 32 :=
 shL (wd (at8 l (4*k))) 24 ||| shL (wd (at8 l (4*k+1))) 16 ||| shL (wd (at8 l (4*k+2))) 8 ||| wd (at8 l (4*k+3))
theorem b8m (x:UInt8):b8 x % 4294967296=u (wd x):=by
 rw [←b8_u];have:=b8_nonneg x;have:=b8_lt x;omega
theorem shl24 (x:BitVec 32):u x*16777216 % 4294967296=u (shL x 24):=shl32 x 24
theorem shl16 (x:BitVec 32):u x*65536 % 4294967296=u (shL x 16):=shl32 x 16
theorem shl8 (x:BitVec 32):u x*256 % 4294967296=u (shL x 8):=shl32 x 8
def words (l:List UInt8) (k:Nat):List (BitVec 32):=(List.range 16).map fun i=>if i < k then be4 l i else 0
theorem words_len (l:List UInt8) (k:Nat):(words l k).length=16:=by simp [words]
theorem words_set (l:List UInt8) (k:Nat):(words l k).set k (be4 l k)=words l (k+1):=by
 apply List.ext_getElem
 · simp [words]
 · intro i h1 h2
   simp only [words,List.getElem_set,List.getElem_map,List.getElem_range];by_cases h:k=i
   · subst h;simp
   · rw [if_neg h]
     by_cases h3:i < k
     · rw [if_pos h3,if_pos (by omega)]
     · rw [if_neg h3,if_neg (by omega)]
set_option maxHeartbeats 400000 in
theorem sixteen_any (l:List UInt8) (hl:l.length=64) (w:World) :
 Calls Tryz.prog 206 #[.agg (bvec l)] w fun e w'=>e=.returned (.agg (vec (words l 16)))∧Below w.heap.size w w':=by
 go_enter Tryz.func206,Tryz.ntmps206
 go_wp2;go_loopw [6] (fun i wr=>∃k:Nat,k≤16∧i=.int .i64 (k:Int)∧Has wr w.heap.size 234 (bvec l)∧Has wr (w.heap.size+1) 54 (vec (List.replicate 16 0))∧Has wr (w.heap.size+1+1) 54 (vec (words l k))∧Below w.heap.size w wr)
  (fun i _=>16 - (intOf i).toNat)
 case atStart =>
  refine ⟨0,by omega,rfl,?_,?_,?_,?_⟩
  · exact ((Has.fresh _ _ _).more _).more _
  · exact (Has.fresh' _ 54 (vec (List.replicate 16 0)) (by simp)).more _
  · exact Has.fresh' _ 54 (vec (words l 0)) (by simp)
  · exact (((Below.refl _ _).alloc (by simp) _).alloc (by simp) _).alloc (by simp;omega) _
 case round =>
  obtain ⟨k,hk,rfl,h1,h2,h3,hb⟩:=hrel;by_cases hlt:k < 16
  · obtain ⟨q0,e0,E0⟩:∃q:Nat,4*(k:Int)=(q:Int)∧Hid (4*k=q):=⟨4*k,by omega,rfl⟩
    obtain ⟨q1,e1,E1⟩:∃q:Nat,(q0:Int)+1=(q:Int)∧Hid (q0+1=q):=⟨q0+1,by omega,rfl⟩
    obtain ⟨q2,e2,E2⟩:∃q:Nat,(q0:Int)+2=(q:Int)∧Hid (q0+2=q):=⟨q0+2,by omega,rfl⟩
    obtain ⟨q3,e3,E3⟩:∃q:Nat,(q0:Int)+3=(q:Int)∧Hid (q0+3=q):=⟨q0+3,by omega,rfl⟩
    have HB:=hid hb;have H1:=hid h1;have H2:=hid h2;have H3:=hid h3;have d0:=(h1.at_ q0).trans (bvec_get l q0 (by omega))
    have d1:=(h1.at_ q1).trans (bvec_get l q1 (by omega))
    have d2:=(h1.at_ q2).trans (bvec_get l q2 (by omega))
    have d3:=(h1.at_ q3).trans (bvec_get l q3 (by omega))
    have f3:=h3.free k;have c3:=(h3.at_ k).trans (vec_get _ k (by rw [words_len];omega))
    have g0:(q0:Int) < 64:=by omega
    have g1:(q1:Int) < 64:=by omega
    have g2:(q2:Int) < 64:=by omega
    have g3:(q3:Int) < 64:=by omega
    have n0:(0:Int)≤(q0:Int):=by omega
    clear hb h1 h2 h3;go_wp2;go_region
    go_wp2;go_roundw
    case rel =>
     have e:∀z:Int,z=u (be4 l k)→Has (wr.setCell ⟨w.heap.size+1+1,k,none⟩ (.int .u32 z)) (w.heap.size+1+1) 54 (vec (words l (k+1))):=by
      intro z hz;rw [hz,←words_set,←vec_set];exact H3.out.put k _
     refine ⟨k+1,by omega,by go_num,H1.out.other (p:=⟨w.heap.size+1+1,k,none⟩) (by show w.heap.size≠w.heap.size+1+1;omega) _,H2.out.other (p:=⟨w.heap.size+1+1,k,none⟩) (by simp) _,e _ ?_,?_⟩
     · simp only [b8m,shl24,shl16,shl8,or32,be4,←E1.out,←E2.out,←E3.out,←E0.out]
     · exact (HB.out.setCell (p:=⟨w.heap.size+1+1,k,none⟩) (by simp;omega) _).drew
    case measure=>simp [intOf];omega
  · obtain rfl:k=16:=by omega
    have HB:=hid hb;have H3:=hid h3;have H2:=hid h2;have S1:Hid ((Tryz.prog.info? 54).map (·.size)=some (vec (words l 16)).size):=by rw [vec_size,words_len];exact i66
    have S2:Hid ((vec (List.replicate 16 0)).size=(vec (words l 16)).size):=by rw [vec_size,vec_size,words_len];rfl
    clear hb h1 h2 h3;go_wp2_with (first
     | (refine wpList_load_row rfl 54 _ rfl (w.heap.size+1+1) rfl 54 _ (0,0) _ H3.out Tryz.underlying54 rfl S1.out ?_)
     | (refine wpList_store_row rfl 54 _ _ rfl (w.heap.size+1) _ rfl rfl 54 _ H2.out S1.out S2.out (vec_one _) ?_))
    refine bodyPost_ret (results_cell_row rfl _ _ (w.heap.size+1) 54 (vec (words l 16)) (0,0) _ rfl H2.out.row Tryz.underlying54 rfl S1.out) rfl ⟨rfl,?_⟩;exact HB.out.rowK (by omega) _
end Go.Proofs.YtahkcemdbfjilaaGreatDoor.Sha
namespace Go.Proofs.YtahkcemdbfjilaaGreatDoor.Sha
open Go.RowKit
def kList:List (BitVec 32):=[0x428a2f98,0x71374491,0xb5c0fbcf,0xe9b5dba5,0x3956c25b,0x59f111f1,0x923f82a4,0xab1c5ed5,
 0xd807aa98,0x12835b01,0x243185be,0x550c7dc3,0x72be5d74,0x80deb1fe,0x9bdc06a7,0xc19bf174,
 0xe49b69c1,0xefbe4786,0x0fc19dc6,0x240ca1cc,0x2de92c6f,0x4a7484aa,0x5cb0a9dc,0x76f988da,
 0x983e5152,0xa831c66d,0xb00327c8,0xbf597fc7,0xc6e00bf3,0xd5a79147,0x06ca6351,0x14292967,
 0x27b70a85,0x2e1b2138,0x4d2c6dfc,0x53380d13,0x650a7354,0x766a0abb,0x81c2c92e,0x92722c85,
 0xa2bfe8a1,0xa81a664b,0xc24b8b70,0xc76c51a3,0xd192e819,0xd6990624,0xf40e3585,0x106aa070,
 0x19a4c116,0x1e376c08,0x2748774c,0x34b0bcb5,0x391c0cb3,0x4ed8aa4a,0x5b9cca4f,0x682e6ff3,
 0x748f82ee,0x78a5636f,0x84c87814,0x8cc70208,0x90befffa,0xa4506ceb,0xbef9a3f7,0xc67178f2]
def Tab (w:World):Prop:=∀i,i < 64→w.cell? ⟨0,i,none⟩=some (.int .u32 (u (at32 kList i)))
theorem Tab.pos {w:World} (h:Tab w):0 < w.heap.size:=block_lt_of_cell (h 0 (by omega))
theorem Tab.kept {w w':World} {B:Nat} (h:Tab w) (hb:Below B w w') (hB:0 < B):Tab w':=fun i hi=>(hb.cell (p:=⟨0,i,none⟩) hB).trans (h i hi)
structure S8 where
 a:BitVec 32
 b:BitVec 32
 c:BitVec 32
 d:BitVec 32
 e:BitVec 32
 f:BitVec 32
 g:BitVec 32
 h:BitVec 32
def sx (s:S8) (kk ww:BitVec 32):BitVec 32:=s.h+(rotR s.e 6 ^^^ rotR s.e 11 ^^^ rotR s.e 25)+((s.e &&& s.f) ^^^ (~~~s.e &&& s.g))+kk+ww
def sy (s:S8):BitVec 32:=(rotR s.a 2 ^^^ rotR s.a 13 ^^^ rotR s.a 22)+((s.a &&& s.b) ^^^ (s.a &&& s.c) ^^^ (s.b &&& s.c))
def stepS (s:S8) (kk ww:BitVec 32):S8:=⟨sx s kk ww+sy s,s.a,s.b,s.c,s.d+sx s kk ww,s.e,s.f,s.g⟩
def sched (l:List (BitVec 32)):Nat→List (BitVec 32)
 | 0=>l
 | k+1=>if 16≤k then (sched l k).set (k % 16) (nextW (sched l k) k) else sched l k
def run8 (l:List (BitVec 32)) (s:S8):Nat→S8
 | 0=>s
 | k+1=>stepS (run8 l s k) (at32 kList k) (at32 (sched l (k+1)) (k % 16))
theorem sched_low (l:List (BitVec 32)) (k:Nat) (h:k < 16):sched l (k+1)=sched l k:=by rw [sched,if_neg (by omega)]
theorem sched_high (l:List (BitVec 32)) (k:Nat) (h:16≤k):sched l (k+1)=(sched l k).set (k % 16) (nextW (sched l k) k):=by rw [sched,if_pos h]
theorem sched_len (l:List (BitVec 32)) (hl:l.length=16) (k:Nat):(sched l k).length=16:=by
 induction k with
 | zero=>exact hl
 | succ k ih=>unfold sched;split<;>simp [ih]
theorem add3 (a b c:BitVec 32):(u a+u b+u c) % 4294967296=u (a+b+c):=by rw [←Int.emod_add_emod,add32,add32]
theorem add5 (a b c d e:BitVec 32):(u a+u b+u c+u d+u e) % 4294967296=u (a+b+c+d+e):=by
 rw [←Int.emod_add_emod,←Int.emod_add_emod (u a+u b+u c),add3,add32,add32]
theorem ones32:(if IntKind.u32.signed=true then (-1:Int) else IntKind.u32.max)=4294967295:=by decide
theorem sx_num (s:S8) (kk ww:BitVec 32) :
 (u s.h+bits BinOp.xor IntKind.u32 (bits BinOp.xor IntKind.u32 (u (rotR s.e 6)) (u (rotR s.e 11))) (u (rotR s.e 25)) +
   bits BinOp.xor IntKind.u32 (bits BinOp.and IntKind.u32 (u s.e) (u s.f)) (bits BinOp.and IntKind.u32 (bits BinOp.xor IntKind.u32 (if IntKind.u32.signed=true then -1 else IntKind.u32.max) (u s.e)) (u s.g)) +
   u kk+u ww) % 4294967296=u (sx s kk ww):=by
 rw [ones32];simp only [xor32,and32,not32,add5];rfl
theorem sy_num (s:S8) :
 (bits BinOp.xor IntKind.u32 (bits BinOp.xor IntKind.u32 (u (rotR s.a 2)) (u (rotR s.a 13))) (u (rotR s.a 22)) +
   bits BinOp.xor IntKind.u32 (bits BinOp.xor IntKind.u32 (bits BinOp.and IntKind.u32 (u s.a) (u s.b)) (bits BinOp.and IntKind.u32 (u s.a) (u s.c))) (bits BinOp.and IntKind.u32 (u s.b) (u s.c))) % 4294967296=u (sy s):=by
 simp only [xor32,and32,add32];rfl
theorem val32 {x y:Int} (h:x=y):Value.int .u32 x=Value.int .u32 y:=by rw [h]
theorem run8_next (l:List (BitVec 32)) (s:S8) (k j:Nat) (W:List (BitVec 32)) (hj:Hid (k % 16=j)) (hW:Hid (sched l (k+1)=W)) :
 run8 l s (k+1)=stepS (run8 l s k) (at32 kList k) (at32 W j):=by rw [run8,hW.out,hj.out]
def sums (l:List (BitVec 32)) (R:S8):List (BitVec 32) :=
 [at32 l 0+R.a,at32 l 1+R.b,at32 l 2+R.c,at32 l 3+R.d,at32 l 4+R.e,at32 l 5+R.f,at32 l 6+R.g,at32 l 7+R.h]
def foldL (l:List (BitVec 32)) (p:List UInt8):List (BitVec 32) :=
 sums l (run8 (words p 16) ⟨at32 l 0,at32 l 1,at32 l 2,at32 l 3,at32 l 4,at32 l 5,at32 l 6,at32 l 7⟩ 64)
set_option maxHeartbeats 1000000 in
theorem fold_any (a b c d e f g h:BitVec 32) (p:List UInt8) (hp:p.length=64) (w:World) (hT:Tab w) :
 Calls Tryz.prog 170 #[.agg (vec [a,b,c,d,e,f,g,h]),.agg (bvec p)] w fun e' w'=>e'=.returned (.agg (vec (foldL [a,b,c,d,e,f,g,h] p)))∧Below w.heap.size w w':=by
 have Z2:Hid ((Tryz.prog.info? 234).map (·.size)=some (bvec p).size):=by rw [bvec_size,hp];exact i35
 have Z3:Hid ((Tryz.prog.info? 54).map (·.size)=some (vec (words p 16)).size):=by rw [vec_size,words_len];exact i66
 have Z4:Hid (16=(vec (words p 16)).size):=by rw [vec_size,words_len];rfl
 have hp0:=hT.pos;have HT:=hid hT;clear hT;go_enter Tryz.func170,Tryz.ntmps170
 go_wp2_with (first
  | (refine wpList_load_row rfl 234 _ rfl (w.heap.size+1) rfl 234 _ (0,0) _ (Has.more (Has.fresh' _ 234 (bvec p) (by simp)) _) Tryz.underlying234 rfl Z2.out ?_)
  | (go_at_call 206;refine (sixteen_any p hp _).mono ?_;rintro e1 w1 ⟨rfl,hb1⟩)
  | (refine wpList_store_row rfl 54 _ _ rfl w1.heap.size _ rfl rfl 54 _ (Has.fresh w1 54 _) Z3.out Z4.out (vec_one _) ?_
     generalize hG:World.setRow _ _ _=W2))
 have hb0:Below w.heap.size w w1 :=
  ((((Below.refl _ _).alloc (Nat.le_refl _) _).alloc (by simp) _).alloc (by simp;omega) _).trans (hb1.mono (by simp;omega))
 have hs0:w.heap.size+3≤w1.heap.size:=by have:=hb1.size;simp at this;omega
 have K2:Hid (Has W2 w.heap.size 232 (vec [a,b,c,d,e,f,g,h])):=by
  rw [←hG];exact ((((((Has.fresh w 232 (vec [a,b,c,d,e,f,g,h])).more _).more _).kept hb1 (by simp;omega))).more _).rowOther (by omega)
 have K4:Hid (∃z,Has W2 (w.heap.size+1+1) 232 (vec z)∧z.length=8):=by
  rw [←hG];exact ⟨List.replicate 8 0,(((Has.fresh' _ 232 (vec (List.replicate 8 0)) (by simp)).kept hb1 (by simp)).more _).rowOther (by omega),rfl⟩
 have K5:Hid (Has W2 w1.heap.size 54 (vec (words p 16))):=by
  rw [←hG];exact (Has.fresh w1 54 _).row
 have KB:Hid (Below w.heap.size w W2):=by
  rw [←hG];exact ((hb0.alloc hb0.size _).rowK (by omega) _)
 clear hG hb1 hb0;have hw2:=K2.out.at_;have hw0:W2.cell? ⟨w.heap.size,0,none⟩=some (.int .u32 (u a)):=hw2 0;have hw1:W2.cell? ⟨w.heap.size,1,none⟩=some (.int .u32 (u b)):=hw2 1;have hw3:W2.cell? ⟨w.heap.size,2,none⟩=some (.int .u32 (u c)):=hw2 2;have hw4:W2.cell? ⟨w.heap.size,3,none⟩=some (.int .u32 (u d)):=hw2 3;have hw5:W2.cell? ⟨w.heap.size,4,none⟩=some (.int .u32 (u e)):=hw2 4;have hw6:W2.cell? ⟨w.heap.size,5,none⟩=some (.int .u32 (u f)):=hw2 5;have hw7:W2.cell? ⟨w.heap.size,6,none⟩=some (.int .u32 (u g)):=hw2 6;have hw8:W2.cell? ⟨w.heap.size,7,none⟩=some (.int .u32 (u h)):=hw2 7;clear hw2;go_quiet (fail)
 go_wp2;go_quiet (fail)
 go_wp2;clear hw0 hw1 hw3 hw4 hw5 hw6 hw7 hw8;generalize hl0:words p 16=l0 at K5 Z3 Z4;have HL0:Hid (words p 16=l0):=hl0;have HLN:Hid (l0.length=16):=by rw [←hl0];exact words_len _ _
 clear hl0;obtain ⟨s0,HS0⟩:∃s0:S8,Hid (s0=⟨a,b,c,d,e,f,g,h⟩):=⟨_,rfl⟩;obtain ⟨N,HN⟩:∃N,Hid (N=w1.heap.size):=⟨_,rfl⟩;have K5':Hid (Has W2 N 54 (vec l0)):=by rw [HN.out];exact K5
 have hsN:w.heap.size+3≤N:=by rw [HN.out];exact hs0
 rw [←HN.out];clear K5 hs0;go_loopw [6,7,8,9,10,11,12,13,35] (fun v6 v7 v8 v9 v10 v11 v12 v13 i wr=>∃k:Nat,k≤64∧i=.int .i64 (k:Int) ∧
  v6=.int .u32 (u (run8 l0 s0 k).a)∧v7=.int .u32 (u (run8 l0 s0 k).b)∧v8=.int .u32 (u (run8 l0 s0 k).c)∧v9=.int .u32 (u (run8 l0 s0 k).d) ∧
  v10=.int .u32 (u (run8 l0 s0 k).e)∧v11=.int .u32 (u (run8 l0 s0 k).f)∧v12=.int .u32 (u (run8 l0 s0 k).g)∧v13=.int .u32 (u (run8 l0 s0 k).h) ∧
  Hid (Has wr w.heap.size 232 (vec [a,b,c,d,e,f,g,h]))∧Hid (∃z,Has wr (w.heap.size+1+1) 232 (vec z)∧z.length=8)∧Hid (Has wr N 54 (vec (sched l0 k)))∧Hid (Below w.heap.size w wr))
  (fun _ _ _ _ _ _ _ _ i _=>64 - (intOf i).toNat)
 case atStart =>
  rw [HS0.out];exact ⟨0,by omega,rfl,rfl,rfl,rfl,rfl,rfl,rfl,rfl,rfl,hid K2.out,K4,hid K5'.out,hid ((KB.out.drewN' _).drewN' _)⟩
 case round =>
  obtain ⟨k,hk,rfl,rfl,rfl,rfl,rfl,rfl,rfl,rfl,rfl,J2,J4,J5,JB⟩:=hrel;by_cases hlt:k < 64
  · by_cases h16:16≤k
    · obtain ⟨j0,m0,b0,H0⟩:=modE k
      have hsc:Hid (sched l0 (k+1)=(sched l0 k).set j0 (nextW (sched l0 k) k)):=by rw [sched_high _ _ h16,H0.out];rfl
      have SL:Hid ((sched l0 k).length=16):=sched_len l0 HLN.out k;have S1:Hid ((Tryz.prog.info? 54).map (·.size)=some (vec (sched l0 k)).size):=by rw [vec_size,SL.out];exact i66
      go_wp2_with (first
       | (refine wpList_load_row rfl 54 _ rfl N rfl 54 _ (0,0) _ J5.out Tryz.underlying54 rfl S1.out ?_)
       | (go_at_call 207;refine (next_any (sched l0 k) SL.out k hlt _).mono ?_;rintro e2 w2 ⟨rfl,hb2⟩
          have Q5:Hid (Has w2 N 54 (vec (sched l0 k))):=J5.out.kept hb2 J5.out.inside;have fj:=Q5.out.free j0;have cj:=(Q5.out.at_ j0).trans (vec_get _ j0 (by rw [SL.out];exact b0))))
      generalize hG:World.setCell w2 _ _=W3;have R5:Hid (Has W3 N 54 (vec (sched l0 (k+1)))):=by
       rw [←hG,hsc.out,←vec_set];exact Q5.out.put j0 _
      have R2:Hid (Has W3 w.heap.size 232 (vec [a,b,c,d,e,f,g,h])):=by
       rw [←hG];exact (J2.out.kept hb2 J2.out.inside).other (p:=⟨N,j0,none⟩) (by show w.heap.size≠N;omega) _
      have R4:Hid (∃z,Has W3 (w.heap.size+1+1) 232 (vec z)∧z.length=8):=by
       obtain ⟨z,Ja,Jb⟩:=J4.out;rw [←hG];exact ⟨z,(Ja.kept hb2 Ja.inside).other (p:=⟨N,j0,none⟩) (by show w.heap.size+1+1≠N;omega) _,Jb⟩
      have RB:Hid (Below w.heap.size w W3):=by
       rw [←hG];exact (JB.out.trans (hb2.mono JB.out.size)).setCell (p:=⟨N,j0,none⟩) (by show w.heap.size≤N;omega) _
      clear hG hb2 fj cj;have ct:W3.cell? ⟨0,k,none⟩=some (.int .u32 (u (at32 kList k))):=(HT.out.kept RB.out hp0) k hlt;have cw:W3.cell? ⟨N,j0,none⟩=some (.int .u32 (u (at32 (sched l0 (k+1)) j0))) :=
       (R5.out.at_ j0).trans (vec_get _ j0 (by rw [sched_len l0 HLN.out];exact b0))
      go_quiet ((go_at_call 208;exact Calls.quiet_of_same (right_s _ _ (by decide) _)))
      go_wp2_with (go_at_call 208;refine (right_c _ _ (by decide) _).mono ?_;rintro e w' ⟨rfl,rfl⟩)
      go_roundw
      case rel =>
       have hn:=run8_next l0 s0 k j0 _ H0 (hid rfl);refine ⟨k+1,by omega,by go_num,?_,?_,?_,?_,?_,?_,?_,?_,hid (R2.out.drawn _),R4,hid (R5.out.drawn _),hid (RB.out.drewN' _)⟩
       · rw [hn];exact val32 (by rw [sx_num,sy_num,add32];rfl)
       · rw [hn];rfl
       · rw [hn];rfl
       · rw [hn];rfl
       · rw [hn];exact val32 (by rw [sx_num,add32];rfl)
       · rw [hn];rfl
       · rw [hn];rfl
       · rw [hn];rfl
      case measure=>simp [intOf];omega
    · obtain ⟨j0,m0,b0,H0⟩:=modE k
      have hsc:Hid (sched l0 (k+1)=sched l0 k):=sched_low _ _ (by omega)
      have ct:wr.cell? ⟨0,k,none⟩=some (.int .u32 (u (at32 kList k))):=(HT.out.kept JB.out hp0) k hlt;have cw:wr.cell? ⟨N,j0,none⟩=some (.int .u32 (u (at32 (sched l0 k) j0))) :=
       (J5.out.at_ j0).trans (vec_get _ j0 (by rw [sched_len l0 HLN.out];exact b0))
      go_wp2;go_quiet ((go_at_call 208;exact Calls.quiet_of_same (right_s _ _ (by decide) _)))
      go_wp2_with (go_at_call 208;refine (right_c _ _ (by decide) _).mono ?_;rintro e w' ⟨rfl,rfl⟩)
      go_roundw
      case rel =>
       have hn:=run8_next l0 s0 k j0 _ H0 hsc;refine ⟨k+1,by omega,by go_num,?_,?_,?_,?_,?_,?_,?_,?_,hid (J2.out.drawn _),J4,?_,hid (JB.out.drewN' _)⟩
       · rw [hn];exact val32 (by rw [sx_num,sy_num,add32];rfl)
       · rw [hn];rfl
       · rw [hn];rfl
       · rw [hn];rfl
       · rw [hn];exact val32 (by rw [sx_num,add32];rfl)
       · rw [hn];rfl
       · rw [hn];rfl
       · rw [hn];rfl
       · rw [hsc.out];exact hid (J5.out.drawn _)
      case measure=>simp [intOf];omega
  · obtain rfl:k=64:=by omega
    obtain ⟨z,J4a,J4b⟩:=J4.out;clear J4;have Y1:Hid ((Tryz.prog.info? 232).map (·.size)=some 8):=i34
    have hw2:=J2.out.at_;have hw0:wr.cell? ⟨w.heap.size,0,none⟩=some (.int .u32 (u a)):=hw2 0;have hw1:wr.cell? ⟨w.heap.size,1,none⟩=some (.int .u32 (u b)):=hw2 1;have hw3:wr.cell? ⟨w.heap.size,2,none⟩=some (.int .u32 (u c)):=hw2 2;have hw4:wr.cell? ⟨w.heap.size,3,none⟩=some (.int .u32 (u d)):=hw2 3;have hw5:wr.cell? ⟨w.heap.size,4,none⟩=some (.int .u32 (u e)):=hw2 4;have hw6:wr.cell? ⟨w.heap.size,5,none⟩=some (.int .u32 (u f)):=hw2 5;have hw7:wr.cell? ⟨w.heap.size,6,none⟩=some (.int .u32 (u g)):=hw2 6;have hw8:wr.cell? ⟨w.heap.size,7,none⟩=some (.int .u32 (u h)):=hw2 7;clear hw2;have Y2:Hid (Has wr (w.heap.size+1+1) 232 (vec z)):=J4a;have Y3:Hid (z.length=8):=J4b;have Y4:Hid ((vec z).size=8):=by rw [vec_size,J4b];rfl
    clear J4a J4b;have Y5:Hid (vec (sums [a,b,c,d,e,f,g,h] (run8 l0 s0 64))=#[.int .u32 ((u a+u (run8 l0 s0 64).a) % 4294967296),.int .u32 ((u b+u (run8 l0 s0 64).b) % 4294967296),.int .u32 ((u c+u (run8 l0 s0 64).c) % 4294967296),.int .u32 ((u d+u (run8 l0 s0 64).d) % 4294967296),.int .u32 ((u e+u (run8 l0 s0 64).e) % 4294967296),.int .u32 ((u f+u (run8 l0 s0 64).f) % 4294967296),.int .u32 ((u g+u (run8 l0 s0 64).g) % 4294967296),.int .u32 ((u h+u (run8 l0 s0 64).h) % 4294967296)]):=by
     simp only [vec,sums,List.map_cons,List.map_nil,add32];rfl
    have Y6:Hid (Array.all (α:=Value) #[.int .u32 ((u a+u (run8 l0 s0 64).a) % 4294967296),.int .u32 ((u b+u (run8 l0 s0 64).b) % 4294967296),.int .u32 ((u c+u (run8 l0 s0 64).c) % 4294967296),.int .u32 ((u d+u (run8 l0 s0 64).d) % 4294967296),.int .u32 ((u e+u (run8 l0 s0 64).e) % 4294967296),.int .u32 ((u f+u (run8 l0 s0 64).f) % 4294967296),.int .u32 ((u g+u (run8 l0 s0 64).g) % 4294967296),.int .u32 ((u h+u (run8 l0 s0 64).h) % 4294967296)] (·.oneCell')=true):=by rw [←Y5.out];exact vec_one _
    go_wp2_with (refine wpList_store_row rfl 232 (.tmp 4) (.tmp 139) rfl (w.heap.size+1+1) #[.int .u32 ((u a+u (run8 l0 s0 64).a) % 4294967296),.int .u32 ((u b+u (run8 l0 s0 64).b) % 4294967296),.int .u32 ((u c+u (run8 l0 s0 64).c) % 4294967296),.int .u32 ((u d+u (run8 l0 s0 64).d) % 4294967296),.int .u32 ((u e+u (run8 l0 s0 64).e) % 4294967296),.int .u32 ((u f+u (run8 l0 s0 64).f) % 4294967296),.int .u32 ((u g+u (run8 l0 s0 64).g) % 4294967296),.int .u32 ((u h+u (run8 l0 s0 64).h) % 4294967296)] rfl rfl 232 (vec z) Y2.out Y1.out Y4.out Y6.out ?_)
    refine bodyPost_ret (results_cell_row rfl _ _ (w.heap.size+1+1) 232 #[.int .u32 ((u a+u (run8 l0 s0 64).a) % 4294967296),.int .u32 ((u b+u (run8 l0 s0 64).b) % 4294967296),.int .u32 ((u c+u (run8 l0 s0 64).c) % 4294967296),.int .u32 ((u d+u (run8 l0 s0 64).d) % 4294967296),.int .u32 ((u e+u (run8 l0 s0 64).e) % 4294967296),.int .u32 ((u f+u (run8 l0 s0 64).f) % 4294967296),.int .u32 ((u g+u (run8 l0 s0 64).g) % 4294967296),.int .u32 ((u h+u (run8 l0 s0 64).h) % 4294967296)] (0,0) _ rfl Y2.out.row Tryz.underlying232 rfl Y1.out) rfl ⟨?_,JB.out.rowK (by omega) _⟩
    rw [←Y5.out,foldL,HL0.out];rw [HS0.out];rfl
end Go.Proofs.YtahkcemdbfjilaaGreatDoor.Sha
namespace Go.Proofs.YtahkcemdbfjilaaGreatDoor.Sha
open Go.RowKit
structure SS where
 ws:List (BitVec 32)
 ps:List UInt8
 n:Nat
def SS.Ok (s:SS):Prop:=s.ws.length=8∧s.ps.length=64
def V32 (x:BitVec 32):Value:=.int .u32 (u x)
def V8 (x:UInt8):Value:=.int .u8 (b8 x)
def SS.cells (s:SS):List Value:=.bool true :: (s.ws.map V32++(s.ps.map V8++[.int .i64 (s.n:Int)]))
def Sta (w:World) (g:Nat) (s:SS):Prop:=Has w g 236 s.cells.toArray
theorem SS.cells_len (s:SS) (h:s.Ok):s.cells.length=74:=by simp [SS.cells,h.1,h.2]
theorem splice_one (l:List UInt8) (r:Nat) (x:UInt8) (h:r < l.length):splice l r [x]=l.set r x:=by
 simp [splice,List.set_eq_take_append_cons_drop,h]
theorem splice_cons {α:Type} (l:List α) (r:Nat) (x:α) (c:List α) (h:r+1+c.length≤l.length):splice (l.set r x) (r+1) c=splice l r (x :: c):=by
 unfold splice;have e1:(l.set r x).take (r+1)=l.take r++[x]:=by
  rw [List.set_eq_take_append_cons_drop,if_pos (by omega)]
  rw [List.take_append,List.length_take];simp [Nat.min_eq_left (by omega:r≤l.length),List.take_take]
 have e2:(l.set r x).drop (r+1+c.length)=l.drop (r+(c.length+1)):=by
  rw [List.drop_set,if_pos (by omega)]
  congr 1;omega
 rw [e1,e2];simp
theorem splice_len (l:List UInt8) (r:Nat) (c:List UInt8) (h:r+c.length≤l.length):(splice l r c).length=l.length:=length_splice l r c h
def feed1 (s:SS) (x:UInt8):SS :=
 if (s.n+1) % 64=0 then ⟨foldL s.ws (s.ps.set (s.n % 64) x),s.ps.set (s.n % 64) x,s.n+1⟩ else ⟨s.ws,s.ps.set (s.n % 64) x,s.n+1⟩
def feed (s:SS) (xs:List UInt8):SS:=xs.foldl feed1 s
theorem feed_append (s:SS) (xs ys:List UInt8):feed s (xs++ys)=feed (feed s xs) ys:=by simp [feed,List.foldl_append]
theorem feed1_n (s:SS) (x:UInt8):(feed1 s x).n=s.n+1:=by unfold feed1;split<;>rfl
theorem feed_n (xs:List UInt8):∀s:SS,(feed s xs).n=s.n+xs.length:=by
 induction xs with
 | nil=>intro s;rfl
 | cons x xs ih=>intro s;show (feed (feed1 s x) xs).n=_;rw [ih,feed1_n];simp;omega
theorem sums_len (l:List (BitVec 32)) (R:S8):(sums l R).length=8:=rfl
theorem feed1_ok (s:SS) (x:UInt8) (h:s.Ok):(feed1 s x).Ok:=by
 unfold feed1;split
 · exact ⟨sums_len _ _,by simp [h.2]⟩
 · exact ⟨h.1,by simp [h.2]⟩
theorem feed_ok (xs:List UInt8):∀s:SS,s.Ok→(feed s xs).Ok:=by
 induction xs with
 | nil=>intro s h;exact h
 | cons x xs ih=>intro s h;exact ih _ (feed1_ok s x h)
theorem feed_part (c:List UInt8):∀s:SS,s.ps.length=64→s.n % 64+c.length < 64→0 < c.length→feed s c=⟨s.ws,splice s.ps (s.n % 64) c,s.n+c.length⟩:=by
 induction c with
 | nil=>intro s _ _ h;simp at h
 | cons x c ih =>
  intro s hp h _;simp only [List.length_cons] at h;have e:feed1 s x=⟨s.ws,s.ps.set (s.n % 64) x,s.n+1⟩:=by unfold feed1;rw [if_neg (by omega)]
  show feed (feed1 s x) c=_
  rw [e];have hm:(s.n+1) % 64=s.n % 64+1:=by omega
  rcases Nat.eq_zero_or_pos c.length with h0 | h0
  · obtain rfl:=List.eq_nil_of_length_eq_zero h0
    show (⟨s.ws,s.ps.set (s.n % 64) x,s.n+1⟩:SS)=_
    rw [splice_one _ _ _ (by omega)];rfl
  · rw [ih ⟨s.ws,s.ps.set (s.n % 64) x,s.n+1⟩ (by simp [hp]) (by show (s.n+1) % 64+_ < 64;omega) h0]
    show (⟨s.ws,splice (s.ps.set (s.n % 64) x) ((s.n+1) % 64) c,s.n+1+c.length⟩:SS)=_
    rw [hm,splice_cons _ _ _ _ (by omega)]
    congr 1
    simp;omega
theorem feed_full (c:List UInt8):∀s:SS,s.ps.length=64→s.n % 64+c.length=64→0 < c.length →
 feed s c=⟨foldL s.ws (splice s.ps (s.n % 64) c),splice s.ps (s.n % 64) c,s.n+c.length⟩:=by
 induction c with
 | nil=>intro s _ _ h;simp at h
 | cons x c ih =>
  intro s hp h _;simp only [List.length_cons] at h;show feed (feed1 s x) c=_
  rcases Nat.eq_zero_or_pos c.length with h0 | h0
  · obtain rfl:=List.eq_nil_of_length_eq_zero h0
    simp only [List.length_nil] at h;have e:feed1 s x=⟨foldL s.ws (s.ps.set (s.n % 64) x),s.ps.set (s.n % 64) x,s.n+1⟩:=by unfold feed1;rw [if_pos (by omega)]
    rw [e,splice_one _ _ _ (by omega)];rfl
  · have e:feed1 s x=⟨s.ws,s.ps.set (s.n % 64) x,s.n+1⟩:=by unfold feed1;rw [if_neg (by omega)]
    rw [e];have hm:(s.n+1) % 64=s.n % 64+1:=by omega
    rw [ih ⟨s.ws,s.ps.set (s.n % 64) x,s.n+1⟩ (by simp [hp]) (by show (s.n+1) % 64+_=64;omega) h0]
    show (⟨foldL s.ws (splice (s.ps.set (s.n % 64) x) ((s.n+1) % 64) c),splice (s.ps.set (s.n % 64) x) ((s.n+1) % 64) c,s.n+1+c.length⟩:SS)=_
    rw [hm,splice_cons _ _ _ _ (by omega)]
    congr 1
    simp;omega
theorem cells_splice (s:SS) (h:s.Ok) (r:Nat) (c:List UInt8) (hr:r+c.length≤64):splice s.cells (9+r) (c.map V8)=(SS.mk s.ws (splice s.ps r c) s.n).cells:=by
 obtain ⟨h1,h2⟩:=h;have e1:s.cells=(.bool true :: s.ws.map V32)++(s.ps.map V8++[.int .i64 (s.n:Int)]):=by simp [SS.cells]
 have hl:(Value.bool true :: s.ws.map V32).length=9:=by simp [h1]
 rw [e1];unfold splice;rw [List.take_append,List.drop_append,hl,List.take_of_length_le (by rw [hl];omega),List.drop_of_length_le (by rw [hl];omega)]
 rw [List.take_append,List.drop_append,List.length_map,h2,List.length_map];rw [show 9+r - 9=r by omega,show r - 64=0 by omega,show 9+r+c.length - 9=r+c.length by omega,show r+c.length - 64=0 by omega]
 simp [SS.cells,List.map_take,List.map_drop]
theorem cells_count (s:SS) (h:s.Ok) (m:Nat):s.cells.toArray.setIfInBounds 73 (.int .i64 (m:Int))=(SS.mk s.ws s.ps m).cells.toArray:=by
 obtain ⟨h1,h2⟩:=h;have e1:s.cells=(.bool true :: (s.ws.map V32++s.ps.map V8))++[.int .i64 (s.n:Int)]:=by simp [SS.cells]
 have hl:(Value.bool true :: (s.ws.map V32++s.ps.map V8)).length=73:=by simp [h1,h2]
 rw [e1,List.setIfInBounds_toArray,List.set_append,if_neg (by rw [hl];omega),hl]
 simp [SS.cells]
theorem cells_get_word (s:SS) (h:s.Ok) (i:Nat) (hi:i < 8):s.cells.toArray[1+i]? = some (.int .u32 (u (at32 s.ws i))):=by
 obtain ⟨h1,h2⟩:=h;rw [show 1+i=i+1 by omega]
 simp [SS.cells,List.getElem?_append,h1,hi,V32,at32,List.getD]
theorem cells_get_byte (s:SS) (h:s.Ok) (i:Nat) (hi:i < 64):s.cells.toArray[9+i]? = some (.int .u8 (b8 (at8 s.ps i))):=by
 obtain ⟨h1,h2⟩:=h;rw [show 9+i=(8+i)+1 by omega]
 simp [SS.cells,List.getElem?_append,h1,h2,hi,V8,at8,List.getD]
theorem cells_get_count (s:SS) (h:s.Ok):s.cells.toArray[73]? = some (.int .i64 (s.n:Int)):=by
 obtain ⟨h1,h2⟩:=h;simp [SS.cells,h1,h2]
theorem cells_one (s:SS):∀v∈s.cells,v.oneCell'=true:=by
 intro v hv;simp only [SS.cells,List.mem_cons,List.mem_append,List.mem_map,List.not_mem_nil,or_false] at hv;rcases hv with rfl | ⟨_,_,rfl⟩ | ⟨_,_,rfl⟩ | rfl<;>rfl
theorem cells_words (s:SS) (h:s.Ok) (ws:List (BitVec 32)) (hw:ws.length=8):splice s.cells 1 (ws.map V32)=(SS.mk ws s.ps s.n).cells:=by
 obtain ⟨h1,h2⟩:=h;simp [SS.cells,splice,hw,h1]
abbrev Grw (g:Nat) (w w':World):Prop:=w.grownBy w' (some g)
theorem Grw.refl (g:Nat) (w:World):Grw g w w:=⟨rfl,rfl,rfl,Nat.le_refl _,fun _ _ _=>rfl⟩
theorem Grw.trans {g:Nat} {a b c:World} (h:Grw g a b) (k:Grw g b c):Grw g a c :=
 ⟨k.os.trans h.os,k.tape.trans h.tape,k.output.trans h.output,Nat.le_trans h.size k.size,fun i hi hn=>(k.block i (Nat.lt_of_lt_of_le hi h.size) hn).trans (h.block i hi hn)⟩
theorem Grw.of_below {g:Nat} {a b:World} (h:Below a.heap.size a b):Grw g a b:=⟨h.os,h.tape,h.output,h.size,fun i hi _=>h.block i hi⟩
theorem Grw.of_row (g:Nat) (a:World) (cs:Array Value):Grw g a (a.setRow g cs) :=
 ⟨rfl,rfl,rfl,by simp,fun i _ hn=>setRow_other a g i cs (fun e=>hn (by rw [e]))⟩
theorem Grw.of_set (g i:Nat) (a:World) (v:Value):Grw g a (a.setCell ⟨g,i,none⟩ v) :=
 ⟨rfl,rfl,rfl,by simp [World.setCell],fun k _ hn=>Below.heap_setCell a ⟨g,i,none⟩ v k (fun e=>hn (by rw [e]))⟩
theorem Grw.drawn {g:Nat} {a b:World} (h:Grw g a b) (n:Nat):Grw g a (b.drewN n):=⟨h.os,h.tape,h.output,h.size,h.block⟩
theorem Has.sets {g:Nat} {t:TypeId} (c:List Value):∀(o:Nat) (w:World) (cur:List Value),Has w g t cur.toArray→o+c.length≤cur.length→Has (w.setCells g o c) g t (splice cur o c).toArray:=by
 induction c with
 | nil=>intro o w cur h _;simpa [splice,World.setCells] using h
 | cons x c ih =>
  intro o w cur h hl;simp only [List.length_cons] at hl;rw [←splice_cons cur o x c (by omega)]
  have h1:=Has.put h o x;rw [List.setIfInBounds_toArray] at h1;exact ih (o+1) _ _ h1 (by simp;omega)
theorem Grw.of_sets (g:Nat) (c:List Value):∀(o:Nat) (w:World),Grw g w (w.setCells g o c):=by
 induction c with
 | nil=>intro o w;exact Grw.refl g w
 | cons x c ih=>intro o w;exact (Grw.of_set g o w x).trans (ih (o+1) _)
theorem Has.grw {w w':World} {g h:Nat} {t:TypeId} {cs:Array Value} (k:Has w h t cs) (hg:Grw g w w') (hn:h≠g):Has w' h t cs :=
 (hg.block h k.inside (fun e=>hn (Option.some.inj e))).trans k
end Go.Proofs.YtahkcemdbfjilaaGreatDoor.Sha
