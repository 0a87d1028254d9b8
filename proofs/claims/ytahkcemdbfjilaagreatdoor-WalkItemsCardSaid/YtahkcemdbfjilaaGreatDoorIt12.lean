/- Several texts in one. Conditions: those said at each. -/
import Derived.Test.YtahkcemdbfjilaaGreatDoorIt11
import Derived.Great.BuildSlice
set_option linter.unusedSimpArgs false
set_option linter.unusedVariables false
set_option maxRecDepth 100000
namespace Go.Proofs.YtahkcemdbfjilaaGreatDoor.Sha
open Go.RowKit
def byteOf (x:BitVec 32) (k:Nat):UInt8:=UInt8.ofNat (x.toNat / 2 ^ k)
def dig (ws:List (BitVec 32)):Nat→List UInt8
 | 0=>List.replicate 32 0
 | k+1=>((((dig ws k).set (4*k) (byteOf (at32 ws k) 24)).set (4*k+1) (byteOf (at32 ws k) 16)).set (4*k+2) (byteOf (at32 ws k) 8)).set (4*k+3) (byteOf (at32 ws k) 0)
theorem dig_len (ws:List (BitVec 32)) (k:Nat):(dig ws k).length=32:=by
 induction k with
 | zero=>simp [dig]
 | succ k ih=>simp [dig,ih]
theorem byte_num (x:BitVec 32) (k:Nat):u x / 2 ^ k % 256=b8 (byteOf x k):=by
 rw [byteOf,b8_ofNat,u,Int.natCast_emod,Int.natCast_ediv,Int.natCast_pow];rfl
theorem index_word (ws:List (BitVec 32)) (h:ws.length=8) (i:Nat) (hi:i < 8) (w:World) :
 (Instr.index 232 (.agg (ws.map V32).toArray) (.int .i64 (i:Int))).run Tryz.prog w=.ok (.int .u32 (u (at32 ws i))) w:=by
 match ws,h with
 | [a,b,c,d,e,f,g,h],_ =>
  obtain rfl | rfl | rfl | rfl | rfl | rfl | rfl | rfl:i=0∨i=1∨i=2∨i=3∨i=4∨i=5∨i=6∨i=7:=by omega
  all_goals rfl
def fin (s:SS):List UInt8:=dig (feed s (padL s.n)).ws 8
theorem padL_pos (n:Nat):0 < (padL n).length:=by simp [padL,padHead]
theorem padding_slice (n:Nat) (hn:n≤1099511627776) (w:World) :
 Calls Tryz.prog 171 #[.int .i64 (n:Int)] w fun e w'=>∃gp cap,e=.returned (.slice (some ⟨gp,0,none⟩) (padL n).length cap) ∧
  Hid (w.heap.size≤gp∧(padL n).length≤cap∧(∀j,j < (padL n).length→w'.cell? ⟨gp,0+j,none⟩=some (.int .u8 (b8 (at8 (padL n) j))))∧Below w.heap.size w w') :=
 (padding_any n hn w).mono fun e w' ⟨v,he,ho,hb⟩=>by
   rcases ho.2 with ⟨_,h0⟩ | ⟨gp,cap,cur,hv,hle,hh,hc,_,_,htk⟩
   · have:=padL_pos n;omega
   · refine ⟨gp,cap,by rw [he,hv],hle,hc,fun j hj=>?_,hb⟩
     rw [Nat.zero_add,cell_of_row w' gp j cur 5 (0,0) hh];have h1:(cur.toList.take ((padL n).length*1))[j]? = ((padL n).map V8)[j]?:=by rw [htk]
     rw [List.getElem?_take,if_pos (by omega),List.getElem?_map,List.getElem?_eq_getElem hj] at h1
     rw [←Array.getElem?_toList,h1];simp [V8,at8,List.getD,List.getElem?_eq_getElem hj]
def zeroS:Array Value:=(Value.bool false :: (List.replicate 8 (Value.int .u32 0)++(List.replicate 64 (Value.int .u8 0)++[Value.int .i64 0]))).toArray
theorem zero_run (w:World):(zeroValue 236).run Tryz.prog w=.ok (.agg zeroS) w:=by kernel_rfl
theorem sum_start (w:World) (s:SS):∃W1,((w.alloc (.cells (bvec (List.replicate 32 0)) 81)).alloc (.cells zeroS 236)).setRow (w.heap.size+1) s.cells.toArray=W1 ∧
 Hid (Sta W1 (w.heap.size+1) s)∧Hid (Below w.heap.size w W1)∧Hid (Has W1 w.heap.size 81 (bvec (List.replicate 32 0)))∧Hid (W1.heap.size=w.heap.size+2):=by
 refine ⟨_,rfl,?_,?_,?_,?_⟩
 · exact Has.row (Has.fresh' (w.alloc _) 236 zeroS (by simp))
 · exact (((Below.refl _ _).alloc (Nat.le_refl _) _).alloc (by simp) _).rowK (by omega) _
 · exact ((Has.fresh w 81 (bvec (List.replicate 32 0))).more _).rowOther (by omega)
 · show _=_;simp
theorem below_of_grw {g B:Nat} {a b:World} (h:Grw g a b) (h1:B≤g) (h2:B≤a.heap.size):Below B a b :=
 ⟨h.os,h.tape,h.output,h.size,fun k hk=>h.block k (by omega) (fun e=>by have:=Option.some.inj e;omega)⟩
theorem size_words {l:List (BitVec 32)} (h:l.length=8):Hid ((Tryz.prog.info? 232).map (·.size)=some (l.map V32).length):=by
 show _=_
 rw [List.length_map,h];exact i34
theorem fits_pad {n:Nat} (h:n≤1099511627776) (hp:(padL n).length≤72):n+(padL n).length≤4611686018427387904:=by omega
def zero32:Array Value:=#[.int .u8 0,.int .u8 0,.int .u8 0,.int .u8 0,.int .u8 0,.int .u8 0,.int .u8 0,.int .u8 0,.int .u8 0,.int .u8 0,.int .u8 0,.int .u8 0,.int .u8 0,.int .u8 0,.int .u8 0,.int .u8 0,
 .int .u8 0,.int .u8 0,.int .u8 0,.int .u8 0,.int .u8 0,.int .u8 0,.int .u8 0,.int .u8 0,.int .u8 0,.int .u8 0,.int .u8 0,.int .u8 0,.int .u8 0,.int .u8 0,.int .u8 0,.int .u8 0]
theorem zero32_b:zero32=bvec (List.replicate 32 0):=rfl
theorem zero32_one:Hid (zero32.all (·.oneCell')=true):=by show _=_;rw [zero32_b];exact bvec_one _
theorem sum_mid (w w3:World) (B:Nat) (vs:List Value) (h1:Hid (Below B w w3)) (h2:Hid (Has w3 B 81 (bvec (List.replicate 32 0)))) (h3:Hid (w3.rangeAt (B+1) 1 vs)) :
 ∃W5,(w3.alloc (.cells zero32 81)).setRow w3.heap.size zero32=W5 ∧
  Hid (Below B w W5)∧Hid (Has W5 B 81 (bvec (List.replicate 32 0)))∧Hid (Has W5 w3.heap.size 81 (bvec (List.replicate 32 0)))∧Hid (vs≠[]→W5.rangeAt (B+1) 1 vs):=by
 have hB:B < w3.heap.size:=Has.inside h2.out;refine ⟨_,rfl,?_,?_,?_,?_⟩
 · exact (h1.out.alloc (by omega) _).rowK (by omega) _
 · exact (Has.more h2.out _).rowOther (by omega)
 · exact Has.row (Has.fresh w3 81 zero32)
 · intro hv j x hx
   have hc:=h3.out j x hx;have hlt:=block_lt_of_cell hc;have e:((w3.alloc (.cells zero32 81)).setRow w3.heap.size zero32).cell? ⟨B+1,1+j,none⟩=w3.cell? ⟨B+1,1+j,none⟩ :=
    World.cell?_of_block ((setRow_other _ _ (B+1) _ (by simp at hlt;omega)).trans (Below.heap_alloc w3 _ (B+1) hlt))
   rw [e];exact hc
theorem words_ne {l:List (BitVec 32)} (h:l.length=8):l.map V32≠[]:=by
 intro e;have:=congrArg List.length e;simp [h] at this
theorem padL_len (n:Nat):(padL n).length≤72:=by simp [padL,padHead,lenBytes];omega
set_option maxHeartbeats 400000 in
theorem ssum_any (g:Nat) (s:SS) (w:World) (hok:s.Ok) (hst:Sta w g s) (hn:s.n≤1099511627776) (hT:Tab w) :
 Calls Tryz.prog 117 #[.pointer (some ⟨g,0,none⟩)] w fun e w'=>e=.returned (.agg (bvec (fin s)))∧Below w.heap.size w w':=by
 have c0:w.cell? ⟨g,0,none⟩=some (.bool true):=(Has.at_ hst 0).trans rfl;have c1:w.cell? ⟨g,73,none⟩=some (.int .i64 (s.n:Int)):=(Has.at_ hst 73).trans (cells_get_count s hok);have HK:=hid hok;have HS:=hid hst;have HT:=hid hT;have HI:=hid (Has.inside hst);have Z1:Hid ((Tryz.prog.info? 236).map (·.size)=some s.cells.toArray.size):=by rw [List.size_toArray,SS.cells_len s hok];exact i37
 have Z2:Hid (zeroS.size=s.cells.toArray.size):=(show zeroS.size=74 from rfl).trans (List.size_toArray.trans (SS.cells_len s hok)).symm
 have Z3:Hid (s.cells.toArray.all (·.oneCell')=true):=Array.all_eq_true_iff_forall_mem.2 fun v hv=>cells_one s v (by simpa using hv)
 have g0:¬g=w.heap.size:=by have:=Has.inside hst;omega
 have g1:¬g=w.heap.size+1:=by have:=Has.inside hst;omega
 have c0a:∀o,(w.alloc o).cell? ⟨g,0,none⟩=some (.bool true):=fun o=>(World.cell?_alloc_lt w o ⟨g,0,none⟩ (Has.inside hst)).trans c0
 have hg3:Hid (g < w.heap.size):=Has.inside hst;have hp0:=hid hT.pos;have hpl:=hid (padL_len s.n);have hc1:=hid c1;have hzr:=zero_run;have Z4:∀{o},Hid (w.heap.size+1=(w.alloc o).heap.size):=fun {o}=>by show _=_;simp
 clear hok hst hT c1;go_enter Tryz.func117,Tryz.ntmps117
 go_wp2_with (first
  | (refine wpList_load_row rfl 236 _ rfl g rfl 236 s.cells.toArray (0,0) _ (Has.more HS.out _) Tryz.underlying236 rfl Z1.out ?_)
  | (refine wpList_store_row rfl 236 (.tmp 3) (.tmp 19) rfl (w.heap.size+1) s.cells.toArray rfl rfl 236 zeroS (Has.fresh' (w.alloc _) 236 zeroS Z4.out) Z1.out Z2.out Z3.out ?_
     generalize hG:World.setRow _ _ _=W1;obtain ⟨W0,hG0,T1,B1,R1,S1⟩:=sum_start w s;obtain rfl:W0=W1:=hG0.symm.trans hG;clear hG0;have c1:W0.cell? ⟨g,73,none⟩=some (.int .i64 (s.n:Int)):=(B1.out.cell (p:=⟨g,73,none⟩) hg3.out).trans hc1.out;clear hG)
  | (go_at_call 171;refine (padding_slice s.n hn _).mono ?_;rintro e1 w2 ⟨gp,cap,rfl,H2⟩
     have T2:Hid (Sta w2 (w.heap.size+1) s):=Has.kept T1.out H2.out.2.2.2 (Has.inside T1.out);have B2:Hid (Below w.heap.size w w2):=B1.out.trans (H2.out.2.2.2.mono B1.out.size);have R2:Hid (Has w2 w.heap.size 81 (bvec (List.replicate 32 0))):=Has.kept R1.out H2.out.2.2.2 (Has.inside R1.out);have D2:Hid (gp≠w.heap.size+1∧gp≠w.heap.size):=by have h1:=H2.out.1;have h2:=S1.out;exact ⟨by omega,by omega⟩
     have E2:Hid (Tab w2):=HT.out.kept B2.out hp0.out)
  | (go_at_call 116;refine (take_any (w.heap.size+1) s gp 0 (padL s.n).length cap _ (padL s.n) w2 HK.out T2.out (Nat.succ_ne_zero _) E2.out rfl H2.out.2.1 (fits_pad hn hpl.out) H2.out.2.2.1 D2.out.1 (fun _=>rfl)).mono ?_;rintro e3 w3 ⟨rfl,T3,G3⟩
     have HF:Hid (feed s (padL s.n)).Ok:=feed_ok _ _ HK.out;have RW:=hid (range_words T3 HF.out);have B3:Hid (Below w.heap.size w w3):=B2.out.trans (below_of_grw G3 (Nat.le_succ _) B2.out.size);have R3:Hid (Has w3 w.heap.size 81 (bvec (List.replicate 32 0))):=Has.grw R2.out G3 (Nat.ne_of_lt (Nat.lt_succ_self _));have S3:Hid (w.heap.size < w3.heap.size):=Has.inside R3.out;have Z5:Hid ((Tryz.prog.info? 232).map (·.size)=some ((feed s (padL s.n)).ws.map V32).length):=size_words HF.out.1
     clear T3 G3)
  | (refine wpList_store_row rfl 81 (.tmp 4) (.tmp 26) rfl w3.heap.size zero32 rfl rfl 81 zero32 (Has.fresh w3 81 zero32) i25 rfl zero32_one.out ?_
     generalize hG:World.setRow _ _ _=W5;obtain ⟨W6,hG0,B5,R5,N5,RW5⟩:=sum_mid w w3 w.heap.size _ B3 R3 RW;obtain rfl:W6=W5:=hG0.symm.trans hG;clear hG0 hG)
  | (refine wpList_load_mid rfl 232 (.tmp 27) rfl (w.heap.size+1) 1 rfl ((feed s (padL s.n)).ws.map V32) _ (RW5.out (words_ne HF.out.1)) Tryz.underlying232 rfl Z5.out ?_))
 obtain ⟨N,HN⟩:∃N,Hid (N=w3.heap.size):=⟨_,rfl⟩;obtain ⟨ws,HW⟩:∃ws,Hid ((feed s (padL s.n)).ws=ws):=⟨_,rfl⟩;rw [HW.out,←HN.out];have hix:=index_word ws (by rw [←HW.out];exact HF.out.1)
 clear RW RW5 B2 R2 H2 T2 D2 E2 T1 B1 R1 S1 c1 Z5;go_loopw [29] (fun i wr=>∃k:Nat,k≤8∧i=.int .i64 (k:Int)∧Hid (Has wr N 81 (bvec (dig ws k)))∧Hid (Has wr w.heap.size 81 (bvec (List.replicate 32 0)))∧Hid (Below w.heap.size w wr))
  (fun i _=>8 - (intOf i).toNat)
 case atStart =>
  refine ⟨0,by omega,rfl,?_,R5,B5⟩
  rw [HN.out];exact N5
 case round =>
  obtain ⟨k,hk,rfl,J1,J2,J3⟩:=hrel;have hNn:Hid (w.heap.size < N):=by show _ < _;rw [HN.out];exact S3.out
  by_cases hlt:k < 8
  · obtain ⟨q0,e0,E0⟩:∃q:Nat,4*(k:Int)=(q:Int)∧Hid (4*k=q):=⟨4*k,by omega,rfl⟩
    have hi1:=hix k hlt;have f3:=J1.out.free;have hl:Hid ((dig ws k).length=32):=dig_len ws k;have d0:=(J1.out.at_ q0).trans (bvec_get _ q0 (by rw [hl.out];have:=E0.out;omega))
    have d1:=(J1.out.at_ (q0+1)).trans (bvec_get _ (q0+1) (by rw [hl.out];have:=E0.out;omega))
    have d2:=(J1.out.at_ (q0+2)).trans (bvec_get _ (q0+2) (by rw [hl.out];have:=E0.out;omega))
    have d3:=(J1.out.at_ (q0+3)).trans (bvec_get _ (q0+3) (by rw [hl.out];have:=E0.out;omega))
    have g4:(q0:Int)+3 < 32:=by have:=E0.out;omega
    have n0:(0:Int)≤(q0:Int):=by omega
    clear hix;go_wp2;go_roundw
    case rel =>
     refine ⟨k+1,by omega,by go_num,?_,?_,?_⟩
     · have b0:=byte_num (at32 ws k) 24
       have b1:=byte_num (at32 ws k) 16;have b2:=byte_num (at32 ws k) 8;have b3:=byte_num (at32 ws k) 0;simp only [show (2:Int) ^ 24=16777216 from rfl,show (2:Int) ^ 16=65536 from rfl,show (2:Int) ^ 8=256 from rfl,Int.pow_zero,Int.ediv_one] at b0 b1 b2 b3
       rw [b0,b1,b2,b3];have h:=(((Has.put J1.out q0 (V8 (byteOf (at32 ws k) 24))).put (q0+1) (V8 (byteOf (at32 ws k) 16))).put (q0+2) (V8 (byteOf (at32 ws k) 8))).put (q0+3) (V8 (byteOf (at32 ws k) 0));have e:dig ws (k+1)=((((dig ws k).set q0 (byteOf (at32 ws k) 24)).set (q0+1) (byteOf (at32 ws k) 16)).set (q0+2) (byteOf (at32 ws k) 8)).set (q0+3) (byteOf (at32 ws k) 0):=by
        rw [dig,E0.out]
       rw [e,←bvec_set,←bvec_set,←bvec_set,←bvec_set];exact h
     · have hne:w.heap.size≠N:=by have:=hNn.out;omega
       exact (((Has.other (p:=⟨N,q0,none⟩) J2.out hne _).other (p:=⟨N,q0+1,none⟩) hne _).other (p:=⟨N,q0+2,none⟩) hne _).other (p:=⟨N,q0+3,none⟩) hne _
     · have hle:w.heap.size≤N:=by have:=hNn.out;omega
       exact (((J3.out.setCell (p:=⟨N,q0,none⟩) hle _).setCell (p:=⟨N,q0+1,none⟩) hle _).setCell (p:=⟨N,q0+2,none⟩) hle _).setCell (p:=⟨N,q0+3,none⟩) hle _
    case measure=>simp [intOf];omega
  · obtain rfl:k=8:=by omega
    have Z8:Hid ((Tryz.prog.info? 81).map (·.size)=some (bvec (dig ws 8)).size):=by rw [bvec_size,dig_len];exact i25
    have Z9:Hid ((bvec (List.replicate 32 0)).size=(bvec (dig ws 8)).size):=by rw [bvec_size,bvec_size,dig_len];rfl
    clear hix;go_wp2_with (first
     | (refine wpList_load_row rfl 81 (.tmp 4) rfl N rfl 81 (bvec (dig ws 8)) (0,0) _ J1.out Tryz.underlying81 rfl Z8.out ?_)
     | (refine wpList_store_row rfl 81 (.tmp 2) (.tmp 60) rfl w.heap.size (bvec (dig ws 8)) rfl rfl 81 _ J2.out Z8.out Z9.out (bvec_one _) ?_))
    refine bodyPost_ret (results_cell_row rfl _ _ w.heap.size 81 (bvec (dig ws 8)) (0,0) _ rfl J2.out.row Tryz.underlying81 rfl Z8.out) rfl ⟨?_,J3.out.rowK (Nat.le_refl _) _⟩;rw [fin,HW.out]
def shaL (xs:List UInt8):List UInt8:=fin (feed newS xs)
end Go.Proofs.YtahkcemdbfjilaaGreatDoor.Sha
namespace Go.Proofs.YtahkcemdbfjilaaGreatDoor.Sha
open Go.RowKit
theorem sum_new (w w1:World) (g:Nat) (h:Hid ((w.alloc (.cells zero32 81)).heap.size≤g)) (hb:Hid (Below (w.alloc (.cells zero32 81)).heap.size (w.alloc (.cells zero32 81)) w1)) (hp:Hid (0 < w.heap.size)) :
 Hid (Below w.heap.size w w1)∧Hid (Has w1 w.heap.size 81 zero32)∧Hid (w.heap.size < g)∧Hid (g≠0):=by
 have h1:=h.out;have h2:=hp.out;simp at h1;refine ⟨((Below.refl _ _).alloc (Nat.le_refl _) _).trans (hb.out.mono (by simp)),(Has.fresh w 81 zero32).kept hb.out (by simp),?_,?_⟩
 · show _ < _;omega
 · show _≠_;omega
theorem sum_take (w w1 w2:World) (g:Nat) (h1:Hid (Below w.heap.size w w1)) (h2:Hid (Has w1 w.heap.size 81 zero32)) (h3:Hid (w.heap.size < g)) (hg:Grw g w1 w2) :
 Hid (Below w.heap.size w w2)∧Hid (Has w2 w.heap.size 81 zero32):=by
 have:=h3.out;exact ⟨h1.out.trans (below_of_grw hg (by omega) h1.out.size),Has.grw h2.out hg (by omega)⟩
theorem feed_newS_n (xs:List UInt8) {len:Nat} (h:xs.length=len) (hb:len≤1099511627776):(feed newS xs).n≤1099511627776:=by
 rw [feed_n];show 0+_≤_;omega
theorem size_dig (l:List UInt8) (h:l.length=32):Hid ((Tryz.prog.info? 81).map (·.size)=some (bvec l).size):=by show _=_;rw [bvec_size,h];exact i25
theorem size_zero (l:List UInt8) (h:l.length=32):Hid (zero32.size=(bvec l).size):=by show _=_;rw [bvec_size,h];rfl
theorem fin_len (s:SS):(fin s).length=32:=dig_len _ _
set_option maxHeartbeats 400000 in
theorem sum_any (bb off len cap:Nat) (A:Option Addr) (xs:List UInt8) (w:World) (hT:Tab w) (hbb:bb < w.heap.size)
 (hxl:xs.length=len) (hcap:len≤cap) (hbig:len≤1099511627776) (hsrc:∀j,j < len→w.cell? ⟨bb,off+j,none⟩=some (.int .u8 (b8 (at8 xs j)))) (hA:0 < len→A=some ⟨bb,off,none⟩) :
 Calls Tryz.prog 69 #[.slice A len cap] w fun e w'=>e=.returned (.agg (bvec (shaL xs)))∧Below w.heap.size w w':=by
 have H1:=hid hT;have H2:=hid hxl;have H3:=hid hsrc;have H4:=hid hA;have H5:=hid hbb;have HI:=hid hT.pos;have H6:Hid ((0:Nat)+len≤4611686018427387904):=by show _≤_;omega
 have Y1:=size_dig (shaL xs) (fin_len _);have Y2:=size_zero (shaL xs) (fin_len _);clear hT hxl hsrc hA hbb;go_enter Tryz.func69,Tryz.ntmps69
 go_wp2_with (first
  | (go_at_call 115;refine (new_any _).mono ?_;rintro e1 w1 ⟨g,hg,rfl,hs1,hb1⟩
     obtain ⟨B1,R1,G1,G0⟩:=sum_new w w1 g hg hb1 HI;have T1:Hid (Tab w1):=H1.out.kept B1.out HI.out;have S1:=hid hs1;have M1:Hid (∀j,j < len→w1.cell? ⟨bb,off+j,none⟩=some (.int .u8 (b8 (at8 xs j)))):=fun j hj=>(B1.out.cell (p:=⟨bb,off+j,none⟩) H5.out).trans (H3.out j hj)
     have NE:Hid (bb≠g):=Nat.ne_of_lt (Nat.lt_trans H5.out G1.out);clear hg hb1 hs1)
  | (go_at_call 116;refine (take_any g newS bb off len cap A xs w1 newS_ok S1.out G0.out T1.out H2.out hcap H6.out M1.out NE.out H4.out).mono ?_;rintro e2 w2 ⟨rfl,hs2,hg2⟩
     obtain ⟨B2,R2⟩:=sum_take w w1 w2 g B1 R1 G1 hg2;have T2:Hid (Tab w2):=H1.out.kept B2.out HI.out;have S2:=hid hs2;clear hg2 hs2)
  | (go_at_call 117;refine (ssum_any g (feed newS xs) w2 (feed_ok _ _ newS_ok) S2.out (feed_newS_n xs H2.out hbig) T2.out).mono ?_;rintro e3 w3 ⟨rfl,hb3⟩
     have B3:Hid (Below w.heap.size w w3):=B2.out.trans (hb3.mono B2.out.size);have R3:Hid (Has w3 w.heap.size 81 zero32):=Has.kept R2.out hb3 (Has.inside R2.out);clear hb3)
  | (refine wpList_store_row rfl 81 (.tmp 2) (.tmp 9) rfl w.heap.size (bvec (shaL xs)) rfl rfl 81 zero32 R3.out Y1.out Y2.out (bvec_one _) ?_))
 refine bodyPost_ret (results_cell_row rfl _ _ w.heap.size 81 (bvec (shaL xs)) (0,0) _ rfl R3.out.row Tryz.underlying81 rfl Y1.out) rfl ⟨rfl,B3.out.rowK (Nat.le_refl _) _⟩
end Go.Proofs.YtahkcemdbfjilaaGreatDoor.Sha
namespace Go.Proofs.YtahkcemdbfjilaaGreatDoor
open Go.RowKit
def hvec (l:List UInt8):Array Value:=(l.map V8).toArray
theorem hvec_size (l:List UInt8):(hvec l).size=l.length:=by simp [hvec]
@[irreducible] def dg (xs:List UInt8):List UInt8:=Sha.shaL xs
theorem dg_len (xs:List UInt8):(dg xs).length=32:=by unfold dg;exact Sha.fin_len _
theorem sum_any (v:Value) (xs:List UInt8) (A:Option Addr) (cap bb off:Nat) (w:World) (hT:Sha.Tab w) (h:Bytes w v xs A cap bb off) (hl:xs.length≤1000000) :
 Calls Tryz.prog 69 #[v] w fun e w'=>e=.returned (.agg (hvec (dg xs)))∧Below w.heap.size w w':=by
 have e0:=h.form;rw [e0];have:=Sha.sum_any bb off xs.length cap A xs w hT h.blk rfl h.le (by omega) (fun j hj=>h.cells j hj) h.src
 refine this.mono ?_;rintro e w' ⟨rfl,hb⟩;refine ⟨?_,hb⟩;unfold dg;rfl
theorem infoH:(Tryz.prog.info? 81).map (fun i=>(i.zero,i.size,i.bytes))=some (some (.agg (hvec (List.replicate 32 0))),32,32):=by kernel_rfl
def hcells (hs:List (List UInt8)):List Value:=hs.flatMap fun l=>l.map V8
theorem hcells_snoc (hs:List (List UInt8)) (h:List UInt8):hcells (hs++[h])=hcells hs++h.map V8:=by simp [hcells]
structure Dgs (B:Nat) (w:World) (v:Value) (hs:List (List UInt8)):Prop where
 own:w.ownsRow B 81 32 v hs.length (hcells hs)
 len:∀h∈hs,h.length=32
theorem Dgs.nil (B:Nat) (w:World):Dgs B w (.slice none 0 0) []:=⟨World.ownsRow_nil _ _ _ _,fun _ h=>by cases h⟩
theorem Dgs.mono {B B':Nat} {w:World} {v:Value} {hs:List (List UInt8)} (h:Dgs B w v hs) (hb:B'≤B):Dgs B' w v hs:=by
 refine ⟨⟨h.own.1,?_⟩,h.len⟩;rcases h.own.2 with ⟨h1,h2⟩ | ⟨g,c,cur,h1,h2,h3⟩
 · exact .inl ⟨h1,h2⟩
 · exact .inr ⟨g,c,cur,h1,Nat.le_trans hb h2,h3⟩
theorem Dgs.grown {B:Nat} {w w':World} {row:Option Nat} {v:Value} {hs:List (List UInt8)} (h:Dgs B w v hs) (hg:w.grownBy w' row) (hne:v.ownBlock=none∨v.ownBlock≠row):Dgs B w' v hs:=⟨h.own.kept hg hne,h.len⟩
theorem Dgs.kept {B C:Nat} {w w':World} {v:Value} {hs:List (List UInt8)} (h:Dgs B w v hs) (hb:Below C w w') (hC:w.heap.size≤C):Dgs B w' v hs :=
 h.grown (row:=none) ⟨hb.os,hb.tape,hb.output,hb.size,fun i hi _=>hb.block i (Nat.lt_of_lt_of_le hi hC)⟩ (by cases v.ownBlock<;>simp)
theorem Dgs.form {B:Nat} {w:World} {v:Value} {hs:List (List UInt8)} (h:Dgs B w v hs):∃A c,v=.slice A hs.length c:=by
 rcases h.own.2 with ⟨h1,h2⟩ | ⟨g,c,cur,h1,_⟩
 · exact ⟨none,0,by rw [h1,h2]⟩
 · exact ⟨_,_,h1⟩
theorem flat_at (hs:List (List UInt8)) (hl:∀h∈hs,h.length=32) (k:Nat) (hk:k < hs.length) (j:Nat) (hj:j < 32):(hcells hs)[k*32+j]? = ((hs[k]).map V8)[j]?:=by
 induction hs generalizing k with
 | nil=>simp at hk
 | cons a t ih =>
  have ha:=hl a (by simp)
  have e:hcells (a :: t)=a.map V8++hcells t:=by simp [hcells]
  rw [e]
  cases k with
  | zero=>rw [List.getElem?_append_left (by simp [ha];omega)];simp
  | succ k =>
   rw [List.getElem?_append_right (by simp [ha];omega)]
   rw [show (k+1)*32+j - (a.map V8).length=k*32+j by simp [ha];omega]
   exact ih (fun h hh=>hl h (by simp [hh])) k (by simpa using hk)
theorem run_build_dg (w:World) (h:List UInt8) (hl:h.length=32) :
 (Instr.buildSlice 56 1 #[(0,Value.agg (hvec h))]).run Tryz.prog w=.ok (.slice (some ⟨w.heap.size,0,none⟩) 1 1) (w.alloc (.cells (hvec h) 81)):=by
 have hI:(Tryz.prog.info? 81).map (fun i=>(i.size,i.zero))=some (32,some (.agg (hvec (List.replicate 32 0)))):=by kernel_rfl
 cases hie:Tryz.prog.info? 81 with
 | none=>rw [hie] at hI;cases hI
 | some ie =>
  rw [hie] at hI;simp only [Option.map_some,Option.some.injEq,Prod.mk.injEq] at hI;refine run_buildSlice (P:=Tryz.prog) w 56 81 1 _ _ ie _ Tryz.underlying56 hie hI.2 (by rw [hI.1];omega) (by rw [hI.1];omega) ?_
  rw [hI.1];refine (Great.fill_whole (s:=32) (by omega) [Value.agg (hvec h)] _ (fun v hv=>?_) (by simp)).trans (by simp [Value.cells])
  simp only [List.mem_singleton] at hv;subst hv;show (hvec h).size=32
  rw [hvec_size,hl]
theorem wpList_build_dg {ops:Array Oper} {Q:Exit→Act→World→Prop} {a:Act} {w:World} {rest:List Oper} {o:Oper} (hw:Region.wanted o (yielded ops a.tmps)=true)
 (x:Operand) (ho:o.op=.buildSlice 56 1 #[(0,x)]) (d:List UInt8) (hx:a.eval x=.agg (hvec d)) (hl:d.length=32)
 (h:wpList Tryz.prog ops Q rest (a.put o.dst (.slice (some ⟨w.heap.size,0,none⟩) 1 1)) (w.alloc (.cells (hvec d) 81))):wpList Tryz.prog ops Q (o :: rest) a w :=
 wpList_wanted hw fun _ hK=>by
  unfold Oper.wp execOp;simp only [ho,Sem.run_bind,List.map_toArray,List.map_cons,List.map_nil,hx,run_build_dg w d hl,Result.andThen_ok];exact hK _ _ h
theorem append_dg (w:World) (B:Nat) (v:Value) (hs:List (List UInt8)) (h:Dgs B w v hs) (d:List UInt8) (hd:d.length=32) (a:Addr) (ha:∀j,j < 32→w.cell? (a.add j)=some (V8 (at8 d j))) (hn:hs.length≤100000) (hB:B≤w.heap.size) (ty:TypeId) :
 ∃v' w',(Builtin.append_ #[56,56] ty #[v,.slice (some a) 1 1]).run Tryz.prog w=.ok v' w'∧Dgs B w' v' (hs++[d])∧w.grownBy w' v.ownBlock:=by
 obtain ⟨i0,hi,hz0,hz1,hz2⟩:=info_parts infoH;obtain ⟨v',w',hr,ho,hg,_,_⟩:=run_append_own_at (P:=Tryz.prog) w B 56 ty 81 i0 _ 32 32 Tryz.underlying56 hi hz0 hz1 hz2 (by simp [Value.cells,hvec]) (by omega) v hs.length (hcells hs) h.own a 1 1 (d.map V8) (by simp [hd])
  (fun j u hj=>by obtain ⟨h1,rfl⟩:=map_get hj;exact ha j (by omega)) (V8_one d) (by unfold maxLen;omega) (by omega) hB
 refine ⟨v',w',hr,⟨?_,?_⟩,hg⟩
 · rw [hcells_snoc,List.length_append];exact ho
 · intro h' hh
   rcases List.mem_append.1 hh with h1 | h1
   · exact h.len _ h1
   · simp only [List.mem_singleton] at h1;rw [h1];exact hd
end Go.Proofs.YtahkcemdbfjilaaGreatDoor
namespace Go.Proofs.YtahkcemdbfjilaaGreatDoor
open Go.RowKit
def listTo (xs:List UInt8) (k:Nat):List (List UInt8):=(List.range k).map fun i=>dg (partL xs i)
def hashes (xs:List UInt8):List (List UInt8):=listTo xs (cntL xs.length)
theorem listTo_len (xs:List UInt8) (k:Nat):(listTo xs k).length=k:=by simp [listTo]
theorem listTo_next (xs:List UInt8) (k:Nat):listTo xs (k+1)=listTo xs k++[dg (partL xs k)]:=by simp [listTo,List.range_succ]
theorem hashes_len (xs:List UInt8):(hashes xs).length=cntL xs.length:=listTo_len _ _
theorem partI_nat (xs:List UInt8) (k:Nat) (h:k < cntL xs.length) (hx:xs.length≤4096):partI xs (k:Int)=partL xs k:=by
 rw [partI,if_neg (by rw [cntI_nat _ hx];omega)];rfl
theorem partL_le (xs:List UInt8) (k:Nat):(partL xs k).length≤128:=by
 rw [partL,List.length_take];have:=szL_cases xs.length;omega
set_option maxHeartbeats 4000000 in
theorem list_any (v:Value) (xs:List UInt8) (A:Option Addr) (cap bb off:Nat) (w:World) (hT:Sha.Tab w) (h:Bytes w v xs A cap bb off) (hl:xs.length≤4096) :
 Calls Tryz.prog 28 #[v] w fun e w'=>∃v',e=.returned (.tuple #[v',.int .i64 0])∧Dgs w.heap.size w' v' (hashes xs)∧Below w.heap.size w w':=by
 have e0:=h.form;obtain ⟨n,HN⟩:∃n,Hid (xs.length=n):=⟨_,rfl⟩;obtain ⟨c,HC⟩:∃c,Hid (cntL n=c):=⟨_,rfl⟩;have hc32:=cntL_le n (by rw [←HN.out];exact hl)
 rw [HC.out] at hc32;have C1:=hid (count_any (n:Int));rw [cntI_nat n (by rw [←HN.out];exact hl),HC.out] at C1
 have HV:Hid (hashes xs=listTo xs c):=by show _=_;rw [hashes,HN.out,HC.out]
 have HP:Hid (∀k:Nat,k < c→partI xs (k:Int)=partL xs k):=fun k hk=>partI_nat xs k (by rw [HN.out,HC.out];exact hk) hl
 have HB:=hid h;have HT:=hid hT;have HPOS:=hid hT.pos;have h1:¬(4096:Int) < (n:Int):=by rw [←HN.out];omega
 rw [HN.out] at e0;rw [e0] at HB ⊢;clear h e0 hl hT;go_enter Tryz.func28,Tryz.ntmps28
 go_wp2_with (go_at_call 68;refine (C1.out _).mono ?_;rintro e1 w1 ⟨rfl,rfl⟩)
 go_loopw [4,5,12] (fun v4 _ v12 wr=>∃k:Nat,k≤c∧v12=.int .i64 (k:Int)∧Hid (Dgs w.heap.size wr v4 (listTo xs k))∧Hid (Below w.heap.size w wr)) (fun _ _ v12 _=>c - (intOf v12).toNat)
 case atStart=>exact ⟨0,by omega,rfl,Dgs.nil _ _,Below.refl _ _⟩
 case round =>
  obtain ⟨k,hk,rfl,J1,J2⟩:=hrel;by_cases hlt:k < c
  · have hlt2:(k:Int) < (c:Int):=by omega
    have w1:IntKind.i64.wrap ((k:Int)+1)=(k:Int)+1:=i64in _ (by omega) (by omega)
    have HBk:=hid (HB.out.kept J2.out (Nat.le_refl _));have CP:=hid (part_any _ xs A cap bb off (k:Int) wr HBk.out);rw [HP.out k hlt] at CP;obtain ⟨d,HD⟩:∃d,Hid (dg (partL xs k)=d):=⟨_,rfl⟩;have HDL:Hid (d.length=32):=by show _=_;rw [←HD.out];exact dg_len _
    have HNX:Hid (listTo xs (k+1)=listTo xs k++[d]):=by show _=_;rw [listTo_next,HD.out]
    have HPL:=hid (partL_le xs k);go_wp2_with (first
     | (go_at_call 70;refine CP.out.mono ?_;rintro e2 w2 ⟨v2,rfl,hf2,hb2⟩
        obtain ⟨A2,c2,b2,hy2,_,_⟩:=hf2.bytes (Nat.lt_of_lt_of_le (Nat.lt_of_lt_of_le HPOS.out J2.out.size) hb2.size);have B2:Hid (Below w.heap.size w w2):=J2.out.trans (hb2.mono J2.out.size);have D2:Hid (Dgs w.heap.size w2 u4 (listTo xs k)):=J1.out.kept hb2 (Nat.le_refl _);have Y2:=hid hy2;clear hf2 hb2 hy2)
     | (go_at_call 69;refine (sum_any _ _ _ _ _ _ _ (HT.out.kept B2.out HPOS.out) Y2.out (Nat.le_trans HPL.out (by omega))).mono ?_;rintro e3 w3 ⟨rfl,hb3⟩
        rw [HD.out];have B3:Hid (Below w.heap.size w w3):=B2.out.trans (hb3.mono B2.out.size);have D3:Hid (Dgs w.heap.size w3 u4 (listTo xs k)):=D2.out.kept hb3 (Nat.le_refl _);have AP:=hid (append_dg (w3.alloc (.cells (hvec d) 81)) w.heap.size u4 (listTo xs k) (D3.out.kept ((Below.refl _ _).alloc (Nat.le_refl _) _) (Nat.le_refl _)) d HDL.out ⟨w3.heap.size,0,none⟩ (fun j hj=>by rw [add_at,Nat.zero_add,(Has.fresh w3 81 (hvec d)).at_ j,hvec,List.getElem?_toArray];exact get_map (by rw [HDL.out];exact hj)) (by rw [listTo_len];omega) (by have:=B3.out.size;simp;omega) 56)
        obtain ⟨v5,w5,hr5,hd5,hg5⟩:=AP.out;have R5:=hid hr5;have D5:Hid (Dgs w.heap.size w5 v5 (listTo xs (k+1))):=by show Dgs _ _ _ _;rw [HNX.out];exact hd5
        have B5:Hid (Below w.heap.size w w5):=(B3.out.alloc B3.out.size (.cells (hvec d) 81)).grown hg5 (by have:=B3.out.size;simp;omega) (fun g hg=>(D3.out.own.lt g hg).1)
        clear hb3 AP hr5 hd5 hg5)
     | (refine wpList_build_dg (by rfl) (.tmp 19) rfl d rfl HDL.out ?_)
     | (refine wpList_append_run rfl (.tmp 15) (.tmp 20) 56 56 rfl ⟨_,_,R5.out,?_⟩))
    go_roundw
    case rel=>exact ⟨k+1,by omega,by go_num,D5.out,B5.out⟩
    case measure=>simp [intOf];omega
  · obtain rfl:k=c:=by omega
    go_wp2;go_ret2;exact ⟨_,rfl,by rw [HV.out];exact J1.out,J2.out⟩
end Go.Proofs.YtahkcemdbfjilaaGreatDoor
namespace Go.Proofs.YtahkcemdbfjilaaGreatDoor
def argE:Eff→Int
 | .write p _ t=>if mayB p then (if timeB t then 0 else 2) else 10
 | .append p _=>if mayB p then 0 else 10
 | .mkdir p=>if mayB p then 0 else 10
 | .link p g t=>if mayB p then (if timeB t&&decide (1≤g.length)&&decide (g.length≤160) then 0 else 2) else 10
 | .rename a b=>if mayB a&&mayB b then (if b=a∨withinB b a=true then 2 else 0) else 10
 | .remove p=>if mayB p then 0 else 10
def nextE (room:Nat) (L:Tr):Eff→Int × Tr
 | .write p d t=>if homeE L p=0 then (if takenE L p=0 then putE room L p ⟨1,d,[],t⟩ else (takenE L p,L)) else (homeE L p,L)
 | .append p d=>match look L p with | some n=>if takenE L p=0 then putE room L p ⟨n.kind,n.data++d,n.target,n.time⟩ else (takenE L p,L) | none=>(5,L)
 | .mkdir p=>addE room L p ⟨2,[],[],0⟩
 | .link p g t=>addE room L p ⟨3,[],g,t⟩
 | .rename a b=>if (look L a).isSome then (if homeE L b=0 then (if kindP L b=2∨(kindP L a=2∧(look L b).isSome) then (12,L) else if farB b (innerL L a) then (0,mvAll L a b (innerL L a)) else (10,L)) else (homeE L b,L)) else (5,L)
 | .remove p=>if (look L p).isSome then (if innerL L p=[] then (0,del L p) else (22,L)) else (5,L)
theorem step_split (room:Nat) (L:Tr) (x:Eff):stepE room L x=if argE x=0 then nextE room L x else (argE x,L):=by
 cases x with
 | write p d t =>
  by_cases h0:mayB p=true
  · by_cases h1:timeB t=true
    · have ha:argE (.write p d t)=0:=by simp only [argE,if_pos h0,if_pos h1]
      rw [if_pos ha];simp only [stepE,nextE,if_pos h0,if_pos h1]
    · have ha:argE (.write p d t)=2:=by simp only [argE,if_pos h0,if_neg h1]
      rw [if_neg (by rw [ha];decide),ha];simp only [stepE,if_pos h0,if_neg h1]
  · have ha:argE (.write p d t)=10:=by simp only [argE,if_neg h0]
    rw [if_neg (by rw [ha];decide),ha];simp only [stepE,if_neg h0]
 | append p d =>
  by_cases h0:mayB p=true
  · have ha:argE (.append p d)=0:=by simp only [argE,if_pos h0]
    rw [if_pos ha];simp only [stepE,nextE,if_pos h0]
    cases look L p<;>rfl
  · have ha:argE (.append p d)=10:=by simp only [argE,if_neg h0]
    rw [if_neg (by rw [ha];decide),ha];simp only [stepE,if_neg h0]
 | mkdir p =>
  by_cases h0:mayB p=true
  · have ha:argE (.mkdir p)=0:=by simp only [argE,if_pos h0]
    rw [if_pos ha];simp only [stepE,nextE,if_pos h0]
  · have ha:argE (.mkdir p)=10:=by simp only [argE,if_neg h0]
    rw [if_neg (by rw [ha];decide),ha];simp only [stepE,if_neg h0]
 | link p g t =>
  by_cases h0:mayB p=true
  · by_cases h1:(timeB t&&decide (1≤g.length)&&decide (g.length≤160))=true
    · have ha:argE (.link p g t)=0:=by simp only [argE,if_pos h0,if_pos h1]
      rw [if_pos ha];simp only [stepE,nextE,if_pos h0,if_pos h1]
    · have ha:argE (.link p g t)=2:=by simp only [argE,if_pos h0,if_neg h1]
      rw [if_neg (by rw [ha];decide),ha];simp only [stepE,if_pos h0,if_neg h1]
  · have ha:argE (.link p g t)=10:=by simp only [argE,if_neg h0]
    rw [if_neg (by rw [ha];decide),ha];simp only [stepE,if_neg h0]
 | rename a b =>
  by_cases h0:(mayB a&&mayB b)=true
  · by_cases h1:b=a∨withinB b a=true
    · have ha:argE (.rename a b)=2:=by simp only [argE,if_pos h0,if_pos h1]
      rw [if_neg (by rw [ha];decide),ha];simp only [stepE,if_pos h0,if_pos h1]
    · have ha:argE (.rename a b)=0:=by simp only [argE,if_pos h0,if_neg h1]
      rw [if_pos ha];simp only [stepE,nextE,if_pos h0,if_neg h1]
  · have ha:argE (.rename a b)=10:=by simp only [argE,if_neg h0]
    rw [if_neg (by rw [ha];decide),ha];simp only [stepE,if_neg h0]
 | remove p =>
  by_cases h0:mayB p=true
  · have ha:argE (.remove p)=0:=by simp only [argE,if_pos h0]
    rw [if_pos ha];simp only [stepE,nextE,if_pos h0]
  · have ha:argE (.remove p)=10:=by simp only [argE,if_neg h0]
    rw [if_neg (by rw [ha];decide),ha];simp only [stepE,if_neg h0]
theorem step_arg {room:Nat} {L:Tr} {x:Eff} (h:(stepE room L x).1=0):argE x=0:=by
 rw [step_split] at h;split at h
 · assumption
 · exact absurd h ‹_›
def TG (L:Tr):Prop:=∀p n,look L p=some n→n.kind=1→n.target=[]
theorem TG.nil:TG []:=fun p n h=>by cases h
theorem TG.ins {L:Tr} (h:TG L) (p:By) {n:Nd} (hn:n.kind=1→n.target=[]):TG (ins p n L):=by
 intro q m hq hk;rw [look_ins] at hq;split at hq
 · injection hq with hq;subst hq;exact hn hk
 · exact h q m hq hk
theorem TG.del {L:Tr} (h:TG L) (p:By):TG (del L p):=by
 intro q m hq hk;rw [look_del] at hq;split at hq
 · cases hq
 · exact h q m hq hk
theorem TG.put {L:Tr} (h:TG L) (room:Nat) (p:By) {n:Nd} (hn:n.kind=1→n.target=[]):TG (putE room L p n).2:=by
 unfold putE;split
 · exact h.ins p hn
 · exact h
theorem TG.add {L:Tr} (h:TG L) (room:Nat) (p:By) {n:Nd} (hn:n.kind=1→n.target=[]):TG (addE room L p n).2:=by
 unfold addE;split
 · split
   · exact h
   · exact h.put room p hn
 · exact h
theorem TG.mv1 {T:Tr} (h:TG T) (a b:By):TG (mv1 T a b):=by
 unfold Go.Proofs.YtahkcemdbfjilaaGreatDoor.mv1;refine TG.del (TG.ins h b ?_) a
 cases hl:look T a with
 | none=>intro hk;cases hk
 | some n=>exact h a n hl
theorem TG.mvs {a b:By} (rs:List By):∀{T:Tr},TG T→TG (mvs a b T rs):=by
 induction rs with
 | nil=>intro T h;exact h
 | cons r rs ih=>intro T h;exact ih (h.mv1 _ _)
theorem TG.step {room:Nat} {L:Tr} (h:TG L) (x:Eff):TG (stepE room L x).2:=by
 rw [step_split];split
 · cases x with
   | write p d t =>
    simp only [nextE];split
    · split
      · exact h.put _ _ (fun _=>rfl)
      · exact h
    · exact h
   | append p d =>
    simp only [nextE];split
    · rename_i n hl
      split
      · exact h.put _ _ (h p n hl)
      · exact h
    · exact h
   | mkdir p=>exact h.add _ _ (fun k=>by cases k)
   | link p g t=>exact h.add _ _ (fun k=>by cases k)
   | rename a b =>
    simp only [nextE];split
    · split
      · split
        · exact h
        · split
          · exact TG.mvs _ ((h.del b).mv1 a b)
          · exact h
      · exact h
    · exact h
   | remove p =>
    simp only [nextE];split
    · split
      · exact h.del p
      · exact h
    · exact h
 · exact h
structure GoodR (M:Mo):Prop where
 good:Good M
 t1:TG M.now
 t2:TG M.last
 args:∀x∈M.since,argE x=0
theorem GoodR.new (room:Nat):GoodR (newM room):=⟨Good.new room,TG.nil,TG.nil,fun x h=>by cases h⟩
theorem GoodR.do {M:Mo} (h:GoodR M) (x:Eff):GoodR (doM M x).2:=by
 refine ⟨h.good.do x,?_,?_,?_⟩<;>unfold doM<;>split
 · exact h.t1
 · split
   · exact h.t1.step x
   · exact h.t1
 · exact h.t2
 · split<;>exact h.t2
 · exact h.args
 · split
   · rename_i he
     intro y hy;rcases List.mem_append.1 hy with k | k
     · exact h.args y k
     · rw [List.mem_singleton] at k;rw [k];exact step_arg he
   · exact h.args
end Go.Proofs.YtahkcemdbfjilaaGreatDoor
