/- Several texts in one. Conditions: those said at each. -/
import Derived.Test.YtahkcemdbfjilaaGreatDoorIt40
set_option linter.unusedSimpArgs false
set_option linter.unusedVariables false
set_option maxRecDepth 100000
namespace Go.Proofs.YtahkcemdbfjilaaGreatDoor.Sha
open Go.RowKit
@[irreducible] def IsSum (ys r:List UInt8):Prop:=shaL ys=r
theorem IsSum.mk {ys r:List UInt8} (h:shaL ys=r):IsSum ys r:=by unfold IsSum;exact h
theorem IsSum.eq {ys r:List UInt8} (h:IsSum ys r):shaL ys=r:=by unfold IsSum at h;exact h
@[irreducible] def IsDig (r P:List UInt8) (m:Nat):Prop:=r=dig (stAt P m) 8
theorem IsDig.mk {r P:List UInt8} {m:Nat} (h:r=dig (stAt P m) 8):IsDig r P m:=by unfold IsDig;exact h
theorem IsDig.eq {r P:List UInt8} {m:Nat} (h:IsDig r P m):r=dig (stAt P m) 8:=by unfold IsDig at h;exact h
@[irreducible] def IsDigN (st:List (BitVec 32)) (r:List UInt8):Prop:=digN st 32=r
theorem IsDigN.mk {st:List (BitVec 32)} {r:List UInt8} (h:digN st 32=r):IsDigN st r:=by unfold IsDigN;exact h
theorem IsDigN.eq {st:List (BitVec 32)} {r:List UInt8} (h:IsDigN st r):digN st 32=r:=by unfold IsDigN at h;exact h
theorem sum_primes (w w1:World) (z:Array Value) (hb:Below (w.alloc (.cells z 81)).heap.size (w.alloc (.cells z 81)) w1) (hz:z=zero32):Hid (Below w.heap.size w w1)∧Hid (Has w1 w.heap.size 81 zero32)∧Hid (w.heap.size < w1.heap.size):=by
 subst hz;have:=hb.size;simp at this;exact ⟨((Below.refl _ _).alloc (Nat.le_refl _) _).trans (hb.mono (by simp)),(Has.fresh w 81 zero32).kept hb (by simp),by show _ < _;omega⟩
set_option maxHeartbeats 2000000 in
theorem refSum_any (ys:List UInt8) (A:Option Addr) (n cap bb off:Nat) (w:World) (hn:ys.length=n) (hm:n≤100000) (hs:Bytes w (.slice A n cap) ys A cap bb off) :
 Calls Tryz.prog 164 #[.slice A n cap] w fun e w'=>e=.returned (.agg (bvec (shaL ys)))∧Below w.heap.size w w':=by
 obtain ⟨i0,hi,hz0,hz1,hz2⟩:=info_parts infoU32;have HS:=hid hs;have HN:=hid hn;obtain ⟨r,HR0⟩:∃r,shaL ys=r:=⟨_,rfl⟩;have HR:=IsSum.mk HR0;rw [HR0];clear HR0;clear hs hn;go_enter Tryz.func164,Tryz.ntmps164
 go_wp2_with fail
 refine (primes_any _).mono ?_;rintro e1 w1 ⟨v,rfl,hown,hb1⟩;obtain ⟨g3,c3,rfl,h3a,h3b,h3c⟩:=primes_cells hown;obtain ⟨B1,R1,L1⟩:=sum_primes w w1 _ hb1 rfl;have P3:=hid h3c;have G3:=hid h3a;clear hown hb1 h3a h3b h3c;go_wp2;go_loopw [5,6] (fun v i wr=>∃(k:Nat) (B:Option Addr) (c:Nat),k≤64∧v=.slice B k c∧i=.int .i64 (k:Int)∧Hid (wr.ownsRow w1.heap.size 53 1 (.slice B k c) k ((kList.take k).map V32))∧Hid (Below w1.heap.size w1 wr))
  (fun _ i _=>64 - (intOf i).toNat)
 case atStart=>exact ⟨0,none,0,by omega,rfl,rfl,World.ownsRow_nil _ _ _ _,Below.refl _ _⟩
 case round =>
  obtain ⟨k,B,c,hk,rfl,rfl,HO,HB⟩:=hrel;by_cases hlt:k < 64
  · as_aux_lemma =>
    have ck:=(HB.out.cell (p:=⟨g3,k,none⟩) G3.out).trans (P3.out k hlt);have CC:Hid (∀W,Calls Tryz.prog 198 #[.int .u64 (prm k:Nat)] W fun e w'=>e=.returned (.int .u32 (u (at32 kList k)))∧W=w'):=fun W=>by rw [←cube_at k hlt];exact cube_any (prm k) (prm_lt k hlt) W
    have N2:Hid (k+1≤maxLen):=by show _≤_;unfold maxLen;omega
    have N3:Hid ((k+1)*4≤140737488355328):=by show _≤_;omega
    have N4:Hid (∀o,w1.heap.size≤(wr.alloc o).heap.size):=by intro o;have:=HB.out.size;simp;omega
    go_wp2_with fail
    refine (CC.out _).mono ?_;rintro ee ww ⟨rfl,rfl⟩;go_wp2_with (at_builtin;refine wpList_append_own _ rfl _ _ 264 rfl w1.heap.size 53 i0 (.int .u32 0) 1 4 Tryz.underlying264 hi hz0 hz1 hz2 rfl (by omega) _ _ _ rfl (HO.out.alloc _) ⟨wr.heap.size,0,none⟩ 1 1 [Value.int .u32 (u (at32 kList k))] rfl rfl (cell_one_new _ _ _) (one_u32 _) N2.out N3.out (N4.out _) ?_;intro v3 w3 hown hgrow _)
    have HB3:Hid (Below w1.heap.size w1 w3) :=
     ((HB.out.alloc HB.out.size _).grown hgrow (N4.out _) (fun g hk=>(HO.out.lt g hk).1))
    obtain ⟨g5,c5,rfl⟩:=ownsRow_succ hown;have HO3:Hid (w3.ownsRow w1.heap.size 53 1 (.slice (some ⟨g5,0,none⟩) (k+1) c5) (k+1) ((kList.take (k+1)).map V32)):=by
     rw [take_next _ _ hlt];exact hown
    clear hown hgrow;go_wp2;go_roundw
    case rel=>exact ⟨k+1,_,_,by omega,rfl,rfl,HO3,HB3⟩
    case measure=>simp [intOf];omega
  · obtain rfl:k=64:=by omega
    as_aux_lemma =>
    obtain ⟨g5,rfl,K2,_⟩:=row_own (l:=kList) (n:=64) rfl (by omega) HO.out
    have B2:Hid (Below w.heap.size w wr):=B1.out.trans (HB.out.mono (Nat.le_of_lt L1.out));have R2:Hid (Has wr w.heap.size 81 zero32):=R1.out.kept HB.out L1.out;have P2:Hid (∀i,i < 64→wr.cell? ⟨g3,i,none⟩=some (.int .u64 (prm i:Nat))):=fun i hi=>(HB.out.cell (p:=⟨g3,i,none⟩) G3.out).trans (P3.out i hi)
    have G2:Hid (g3 < wr.heap.size):=Nat.lt_of_lt_of_le G3.out HB.out.size;have K2:=hid K2;clear P3 G3 HO HB B1 R1 L1;generalize wr=w2 at *;rw [show ((64:Nat):Int)=64 from rfl]
    go_wp2;go_loopw [4,8] (fun v i wr=>∃(k:Nat) (B:Option Addr) (c:Nat),k≤8∧v=.slice B k c∧i=.int .i64 (k:Int)∧Hid (wr.ownsRow w2.heap.size 53 1 (.slice B k c) k ((hList.take k).map V32))∧Hid (Below w2.heap.size w2 wr))
     (fun _ i _=>8 - (intOf i).toNat)
    case atStart=>exact ⟨0,none,0,by omega,rfl,rfl,World.ownsRow_nil _ _ _ _,Below.refl _ _⟩
    case round =>
     obtain ⟨k,B,cc,hk,rfl,rfl,HO,HB⟩:=hrel;by_cases hlt:k < 8
     · as_aux_lemma =>
       have ck:=(HB.out.cell (p:=⟨g3,k,none⟩) G2.out).trans (P2.out k (by omega))
       have CC:Hid (∀W,Calls Tryz.prog 199 #[.int .u64 (prm k:Nat)] W fun e w'=>e=.returned (.int .u32 (u (at32 hList k)))∧W=w'):=fun W=>by rw [←square_at k hlt];exact square_any (prm k) (prm_lt k (by omega)) W
       have N2:Hid (k+1≤maxLen):=by show _≤_;unfold maxLen;omega
       have N3:Hid ((k+1)*4≤140737488355328):=by show _≤_;omega
       have N4:Hid (∀o,w2.heap.size≤(wr.alloc o).heap.size):=by intro o;have:=HB.out.size;simp;omega
       go_wp2_with fail
       refine (CC.out _).mono ?_;rintro ee ww ⟨rfl,rfl⟩;go_wp2_with (at_builtin;refine wpList_append_own _ rfl _ _ 264 rfl w2.heap.size 53 i0 (.int .u32 0) 1 4 Tryz.underlying264 hi hz0 hz1 hz2 rfl (by omega) _ _ _ rfl (HO.out.alloc _) ⟨wr.heap.size,0,none⟩ 1 1 [Value.int .u32 (u (at32 hList k))] rfl rfl (cell_one_new _ _ _) (one_u32 _) N2.out N3.out (N4.out _) ?_;intro v3 w3 hown hgrow _)
       have HB3:Hid (Below w2.heap.size w2 w3) :=
        ((HB.out.alloc HB.out.size _).grown hgrow (N4.out _) (fun g hk=>(HO.out.lt g hk).1))
       obtain ⟨g4,c4,rfl⟩:=ownsRow_succ hown;have HO3:Hid (w3.ownsRow w2.heap.size 53 1 (.slice (some ⟨g4,0,none⟩) (k+1) c4) (k+1) ((hList.take (k+1)).map V32)):=by
        rw [take_next _ _ hlt];exact hown
       clear hown hgrow;go_wp2;go_roundw
       case rel=>exact ⟨k+1,_,_,by omega,rfl,rfl,HO3,HB3⟩
       case measure=>simp [intOf];omega
     · obtain rfl:k=8:=by omega
       as_aux_lemma =>
       obtain ⟨g4,rfl,S3,S3b⟩:=row_own (l:=hList) (n:=8) rfl (by omega) HO.out
       have B3:Hid (Below w.heap.size w wr):=B2.out.trans (HB.out.mono B2.out.size);have R3:Hid (Has wr w.heap.size 81 zero32):=R2.out.kept HB.out R2.out.inside;have K3:Hid (Row wr g5 kList):=K2.out.kept HB.out K2.out.inside;have D3:Hid (g4≠g5):=by show _≠_;have:=K2.out.inside;omega
       have D4:Hid (w.heap.size < g4):=by show _ < _;have:=R2.out.inside;omega
       have S3:=hid S3;clear P2 G2 HO HB B2 R2 K2 S3b;generalize wr=w3 at *;have E3:Hid (Env0 w g4 g5 w3):=⟨S3.out,K3.out,R3.out,B3.out⟩;clear S3 K3 R3 B3;rw [show ((8:Nat):Int)=8 from rfl]
       go_wp2_with fail
       refine (padded_any ys A cap bb off _ n HN.out hm (HS.out.kept E3.out.below (Nat.le_refl _))).mono ?_;rintro ee w4 ⟨v,rfl,hown,hb⟩;obtain ⟨P,HP⟩:∃P,Hid (ys++padL n=P):=⟨_,rfl⟩;rw [HP.out] at hown;obtain ⟨m,HM⟩:∃m,Hid (P.length=64*m):=⟨P.length / 64,by
        show _=_
        have:=padL_mod n;rw [←HP.out,List.length_append,HN.out];omega⟩
       have hm0:0 < m:=by
        have:=HM.out;rw [←HP.out,List.length_append] at this;have:=padL_pos n;omega
       rw [HM.out] at hown;obtain ⟨gp,cp,rfl,hcp,hgp,hgq,hpc⟩:=bytes_owned (by omega) hown
       have E4:Hid (Env w g4 g5 gp (stAt P 0) P w4):=E3.out.env hb hgq hpc;have D6:Hid (gp≠g4∧gp≠g5∧gp≠w.heap.size):=by
        have h1:=E3.out.st.inside;have h2:=E3.out.k.inside;have h3:=E3.out.res.inside;exact ⟨by omega,by omega,by omega⟩
       have HSH:IsDig r P m:=IsDig.mk (by
        rw [←HR.eq,sha_blocks ys m (by rw [HN.out,HP.out,HM.out]),HN.out,HP.out])
       have ML:Hid (64*m≤110000):=by
        show _≤_
        have:=HM.out;rw [←HP.out,List.length_append,HN.out] at this;have:=padL_len n;omega
       have HC:=hid hcp;clear E3 hb hown hgp hgq hpc hcp hm HP HN HS HR;go_wp2;obtain ⟨L,HL⟩:∃L,Hid (64*m=L):=⟨_,rfl⟩;rw [HL.out];go_loopw [11] (fun i wr=>∃q,q≤m∧i=.int .i64 ((64*q:Nat):Int)∧Hid (Env w g4 g5 gp (stAt P q) P wr))
        (fun i _=>L - (intOf i).toNat)
       case atStart=>exact ⟨0,by omega,rfl,E4⟩
       case round =>
        obtain ⟨q,hq,rfl,J⟩:=hrel;by_cases hlt:q < m
        · obtain ⟨a,HA⟩:∃a,Hid (64*q=a):=⟨_,rfl⟩
          rw [HA.out];have ha0:a+64≤L:=by have:=HA.out;have:=HL.out;omega
          have ha1:(a:Int) < (L:Int):=by omega
          have hLm:L≤110000:=by have:=ML.out;have:=HL.out;omega
          have hc1:L≤cp:=by have:=HC.out;have:=HL.out;omega
          have hca:¬cp=a:=by omega
          have hcb:¬cp - a=0:=by omega
          go_wp2_with fail
          have QL:Hid (64*(q+1)≤P.length):=by show _≤_;rw [HM.out];omega
          have hBB:Bytes wr (.slice (some ⟨gp,a,none⟩) 64 (cp - a)) (blk P q) (some ⟨gp,a,none⟩) (cp - a) gp a:=by
           have:=blk_bytes J.out q (cp - a) QL.out (by omega)
           rw [HA.out] at this;exact this
          refine (refWords_any (blk P q) _ (cp - a) gp a wr (blk_len P q QL.out) hBB).mono ?_;rintro ee w6 ⟨v12,rfl,hown,hb⟩;rw [w64_row] at hown;have h64:∃A c,v12=.slice A 64 c:=by
           rcases hown.2 with ⟨_,h⟩ | ⟨g,c,_,h,_⟩
           · omega
           · exact ⟨_,_,h⟩
          obtain ⟨A12,c12,rfl⟩:=h64;obtain ⟨g12,rfl,hW,hg12⟩:=row_own (w64_len _) (by omega) hown
          have D12:Hid (g12≠g4):=by show _≠_;have:=J.out.st.inside;omega
          have J6:=J.out.step hb;have AP:=hid (Env2.apart J6 hW);obtain ⟨st,HST⟩:∃st,Hid (stAt P q=st):=⟨_,rfl⟩;rw [HST.out] at J6;have STL:Hid (st.length=8):=by show _=_;rw [←HST.out];exact stAt_len P q
          have J6:=hid J6;have hW:=hid hW;clear hBB hown hb J hca hcb hg12;go_wp2;generalize hG:World.alloc w6 _=W7;obtain ⟨W8,hG0,F⟩:=Env2.start (l:=st) J6.out hW.out _ rfl;obtain rfl:W8=W7:=hG0.symm.trans hG;have F:=hid F;obtain ⟨N,HNN⟩:∃N,Hid (w6.heap.size=N):=⟨_,rfl⟩;rw [HNN.out] at F AP ⊢;clear hG hG0 J6 hW HNN;as_aux_lemma =>
          go_loopw [14] (fun i wr=>∃k:Nat,k≤8∧i=.int .i64 (k:Int)∧Hid (Env2 w g4 g5 gp N g12 st P (w64 (blk P q)) (copied st k) wr))
           (fun i _=>8 - (intOf i).toNat)
          case atStart=>exact ⟨0,by omega,rfl,F⟩
          case round =>
           obtain ⟨k,hk,rfl,F⟩:=hrel;by_cases hlt8:k < 8
           · as_aux_lemma =>
             have ck:=F.out.env.st.cell k (by rw [STL.out];exact hlt8)
             have cv:=(F.out.v.at_ k).trans (vec_get _ k (by rw [copied_len];exact hlt8))
             have fv:=F.out.v.free k;go_wp2;go_roundw
             case rel=>exact ⟨k+1,by omega,by go_num,F.out.put AP.out k _⟩
             case measure=>simp [intOf];omega
           · obtain rfl:k=8:=by omega
             as_aux_lemma =>
             rw [copied_all] at F;rw [show ((8:Nat):Int)=8 from rfl]
             go_wp2;go_loopw [15] (fun i wr=>∃k:Nat,k≤64∧i=.int .i64 (k:Int)∧Hid (Env2 w g4 g5 gp N g12 st P (w64 (blk P q)) (lst8 (run8 (words (blk P q) 16) (start8 st) k)) wr))
                    (fun i _=>64 - (intOf i).toNat)
             case atStart=>exact ⟨0,by omega,rfl,F⟩
             case round =>
                    obtain ⟨k,hk,rfl,F⟩:=hrel;by_cases hlt6:k < 64
                    · as_aux_lemma =>
                      have HN8:=hid (run8_at (blk P q) (start8 st) k hlt6);obtain ⟨s,HSS⟩:∃s,Hid (run8 (words (blk P q) 16) (start8 st) k=s):=⟨_,rfl⟩;rw [HSS.out] at F HN8;have ck:=F.out.env.k.cell k hlt6;have cw:=F.out.row.cell k (by rw [w64_len];exact hlt6)
                      obtain ⟨kk,HKK⟩:∃x,Hid (at32 kList k=x):=⟨_,rfl⟩;obtain ⟨ww,HWW⟩:∃x,Hid (at32 (w64 (blk P q)) k=x):=⟨_,rfl⟩;rw [HKK.out] at ck HN8;rw [HWW.out] at cw HN8;have v0:wr.cell? ⟨N,0,none⟩=some (.int .u32 (u s.a)):=F.out.v.at_ 0;have v1:wr.cell? ⟨N,1,none⟩=some (.int .u32 (u s.b)):=F.out.v.at_ 1;have v2:wr.cell? ⟨N,2,none⟩=some (.int .u32 (u s.c)):=F.out.v.at_ 2;have v4:wr.cell? ⟨N,4,none⟩=some (.int .u32 (u s.e)):=F.out.v.at_ 4;have v5:wr.cell? ⟨N,5,none⟩=some (.int .u32 (u s.f)):=F.out.v.at_ 5;have v6:wr.cell? ⟨N,6,none⟩=some (.int .u32 (u s.g)):=F.out.v.at_ 6;have v7:wr.cell? ⟨N,7,none⟩=some (.int .u32 (u s.h)):=F.out.v.at_ 7;go_wp2;go_quiet ((go_at_call 202;exact Calls.quiet_of_same (turned_s _ _ (by decide) _)))
                      go_wp2;generalize hwq:World.drewN wr _=wq;have FQ:Hid (Env2 w g4 g5 gp N g12 st P (w64 (blk P q)) (lst8 s) wq):=by rw [←hwq];exact F.out.drawn _
                      clear hwq v0 v1 v2 v4 v5 v6 v7 ck cw F;have v0:wq.cell? ⟨N,0,none⟩=some (.int .u32 (u s.a)):=FQ.out.v.at_ 0;have v1:wq.cell? ⟨N,1,none⟩=some (.int .u32 (u s.b)):=FQ.out.v.at_ 1;have v2:wq.cell? ⟨N,2,none⟩=some (.int .u32 (u s.c)):=FQ.out.v.at_ 2;go_quiet ((go_at_call 202;exact Calls.quiet_of_same (turned_s _ _ (by decide) _)))
                      go_wp2;generalize hwq:World.drewN wq _=wz;have FZ:Hid (Env2 w g4 g5 gp N g12 st P (w64 (blk P q)) (lst8 s) wz):=by rw [←hwq];exact FQ.out.drawn _
                      clear hwq v0 v1 v2 FQ;rw [sx_num2,sy_num];obtain ⟨X,HX⟩:∃x,Hid (sx s kk ww=x):=⟨_,rfl⟩;obtain ⟨Y,HY⟩:∃y,Hid (sy s=y):=⟨_,rfl⟩;rw [HX.out,HY.out];go_loopw [18] (fun i wr=>∃j d:Nat,i=.int .i64 (d:Int)∧Hid (j+d=7)∧Hid (Env2 w g4 g5 gp N g12 st P (w64 (blk P q)) (moved (lst8 s) j) wr))
                       (fun i _=>(intOf i).toNat)
                      case atStart=>exact ⟨0,7,rfl,rfl,FZ⟩
                      case round =>
                       obtain ⟨j,d,rfl,HD,F⟩:=hrel;by_cases hd0:0 < d
                       · as_aux_lemma =>
                         obtain ⟨d1,e1,E1⟩:∃d1:Nat,(d:Int) - 1=(d1:Int)∧Hid (d=d1+1):=⟨d - 1,by omega,by show _=_;omega⟩
                         have hd8:(d:Int) < 8:=by have:=HD.out;omega
                         have hl:Hid ((moved (lst8 s) j).length=8):=moved_len _ _;have c1:=(F.out.v.at_ d1).trans (vec_get _ d1 (by rw [hl.out];have:=E1.out;omega))
                         have c2:=(F.out.v.at_ d).trans (vec_get _ d (by rw [hl.out];omega))
                         have f2:=F.out.v.free d;have hdd:(0:Int) < (d:Int):=by omega
                         have hMV:Hid (moved (lst8 s) (j+1)=(moved (lst8 s) j).set d (at32 (moved (lst8 s) j) d1)):=by
                          have h1:7 - j=d:=by have:=HD.out;omega
                          have h2:6 - j=d1:=by have:=HD.out;have:=E1.out;omega
                          show _=_
                          rw [moved,h1,h2]
                         go_wp2;go_roundw
                         case rel=>exact ⟨j+1,d1,rfl,by show _=_;have:=HD.out;have:=E1.out;omega,by rw [hMV.out];exact F.out.put AP.out d _⟩
                         case measure=>simp [intOf];have:=E1.out;omega
                       · obtain rfl:d=0:=by omega
                         as_aux_lemma =>
                         have hj7:j=7:=by have:=HD.out;omega
                         subst hj7;rw [moved_all] at F;have c4:wr.cell? ⟨N,4,none⟩=some (.int .u32 (u s.d)):=F.out.v.at_ 4;have c0:wr.cell? ⟨N,0,none⟩=some (.int .u32 (u s.a)):=F.out.v.at_ 0;have f4:=F.out.v.free 4;have f0:=F.out.v.free 0;go_wp2;go_roundw
                         case rel =>
                          refine ⟨k+1,by omega,by go_num,?_⟩
                          rw [HN8.out,←moved_step,moved_all,add32,add32,HX.out,HY.out];exact (F.out.put AP.out 4 _).put AP.out 0 _
                         case measure=>simp [intOf];omega
                    · obtain rfl:k=64:=by omega
                      as_aux_lemma =>
                      obtain ⟨vv,HVV⟩:∃vv,Hid (lst8 (run8 (words (blk P q) 16) (start8 st) 64)=vv):=⟨_,rfl⟩;have HVL:Hid (vv.length=8):=by show _=_;rw [←HVV.out];rfl
                      have HFD:Hid (raisedTo st vv 8=stAt P (q+1)):=by
                       show _=_
                       rw [←HVV.out,raised_all st STL.out,stAt,HST.out]
                      rw [HVV.out] at F;rw [show ((64:Nat):Int)=64 from rfl]
                      clear HVV;go_wp2;go_loopw [19] (fun i wr=>∃k:Nat,k≤8∧i=.int .i64 (k:Int)∧Hid (Env2 w g4 g5 gp N g12 (raisedTo st vv k) P (w64 (blk P q)) vv wr))
                       (fun i _=>8 - (intOf i).toNat)
                      case atStart=>exact ⟨0,by omega,rfl,F⟩
                      case round =>
                       obtain ⟨k,hk,rfl,F⟩:=hrel;by_cases hlt8:k < 8
                       · as_aux_lemma =>
                         have c1:=F.out.env.st.cell k (by rw [raisedTo_len,STL.out];exact hlt8)
                         have f1:=F.out.env.st.free k;have c2:=(F.out.v.at_ k).trans (vec_get _ k (by rw [HVL.out];exact hlt8))
                         go_wp2;go_region
                         rw [add32];have F2:Hid (Env2 w g4 g5 gp N g12 (raisedTo st vv (k+1)) P (w64 (blk P q)) vv (wr.setCell ⟨g4,k,none⟩ (.int .u32 (u (at32 (raisedTo st vv k) k+at32 vv k)))).drew) :=
                          (F.out.raise D3.out.symm D4.out D6.out.1 D12.out AP.out.1.symm k _).drawn 1
                         clear c1 c2 f1 F;go_wp2;go_roundw
                         case rel=>exact ⟨k+1,by omega,by go_num,F2⟩
                         case measure=>simp [intOf];omega
                       · obtain rfl:k=8:=by omega
                         as_aux_lemma =>
                         rw [HFD.out] at F;go_wp2;go_roundw
                         case rel=>exact ⟨q+1,by omega,by have:=HA.out;rw [show 64*(q+1)=a+64 by omega];go_num,F.out.env⟩
                         case measure=>simp [intOf];omega
        · obtain rfl:q=m:=by omega
          as_aux_lemma =>
          rw [HL.out];obtain ⟨st,HST⟩:∃st,Hid (stAt P q=st):=⟨_,rfl⟩;have STL:Hid (st.length=8):=by show _=_;rw [←HST.out];exact stAt_len P q
          have HD2:IsDigN st r:=IsDigN.mk (by rw [HSH.eq,HST.out,←digYtahkcemdbfjilaaGreatDoorfour])
          rw [HST.out] at J;go_wp2;generalize hG:World.alloc wr _=W9;obtain ⟨N2,W8,hN2,hG0,Q1,Q2,Q3,Q4,Q5⟩:=last_box J.out _ rfl;obtain rfl:W8=W9:=hG0.symm.trans hG;rw [hN2];clear hG hG0 hN2 J;go_loopw [21] (fun i wr=>∃k:Nat,k≤32∧i=.int .i64 (k:Int)∧Hid (Row wr g4 st)∧Hid (Has wr w.heap.size 81 zero32)∧Hid (Has wr N2 81 (bvec (digN st k)))∧Hid (Below w.heap.size w wr))
           (fun i _=>32 - (intOf i).toNat)
          case atStart=>exact ⟨0,by omega,rfl,Q1,Q2,Q3,Q4⟩
          case round =>
           obtain ⟨k,hk,rfl,J1,J2,J3,J4⟩:=hrel;by_cases hlt:k < 32
           · as_aux_lemma =>
             obtain ⟨k4,e4,E4⟩:∃a:Nat,(k:Int) / 4=(a:Int)∧Hid (k / 4=a):=⟨k / 4,by omega,rfl⟩
             obtain ⟨k5,e5,E5⟩:∃a:Nat,(k:Int) % 4=(a:Int)∧Hid (k % 4=a):=⟨k % 4,by omega,rfl⟩
             obtain ⟨k6,e6,E6⟩:∃a:Nat,(24:Int) - 8*(k5:Int)=(a:Int)∧Hid (24 - 8*k5=a):=⟨24 - 8*k5,by have:=E5.out;omega,rfl⟩
             have c1:=J1.out.cell k4 (by rw [STL.out];have:=E4.out;omega)
             have c2:=(J3.out.at_ k).trans (bvec_get _ k (by rw [digYtahkcemdbfjilaaGreatDoorlen];exact hlt))
             have f2:=J3.out.free k;have b1:(k4:Int) < 8:=by have:=E4.out;omega
             have b2:(0:Int)≤(k6:Int):=by omega
             have b3:(k6:Int)≤24:=by have:=E6.out;omega
             have b4:(k5:Int)≤3:=by have:=E5.out;omega
             have b5:(0:Int)≤(k5:Int):=by omega
             go_wp2;rw [byte_num];have HW:Hid ((digN st k).set k (byteOf (at32 st k4) k6)=digN st (k+1)):=by
                    show _=_
                    rw [digN,E4.out,E5.out,E6.out]
             have K3:Hid (Has (wr.setCell ⟨N2,k,none⟩ (.int .u8 (b8 (byteOf (at32 st k4) k6)))) N2 81 (bvec (digN st (k+1)))):=by
                    rw [←HW.out,←bvec_set];exact J3.out.put k _
             go_roundw
             case rel=>exact ⟨k+1,by omega,by go_num,J1.out.other (p:=⟨N2,k,none⟩) Q5.out.1 _,J2.out.other (p:=⟨N2,k,none⟩) (Nat.ne_of_lt Q5.out.2) _,K3,J4.out.setCell (p:=⟨N2,k,none⟩) (Nat.le_of_lt Q5.out.2) _⟩
             case measure=>simp [intOf];omega
           · obtain rfl:k=32:=by omega
             as_aux_lemma =>
             rw [HD2.eq] at J3;have HRL:Hid (r.length=32):=by show _=_;rw [←HD2.eq];exact digYtahkcemdbfjilaaGreatDoorlen _ _
             have Y1:=size_dig r HRL.out;have Y2:=size_zero r HRL.out;go_wp2_with (first
                    | (refine wpList_load_row rfl 81 (.tmp 20) rfl N2 rfl 81 (bvec r) (0,0) _ J3.out Tryz.underlying81 rfl Y1.out ?_)
                    | (refine wpList_store_row rfl 81 (.tmp 2) (.tmp 195) rfl w.heap.size (bvec r) rfl rfl 81 zero32 J2.out Y1.out Y2.out (bvec_one _) ?_))
             exact bodyPost_ret (results_cell_row rfl _ _ w.heap.size 81 (bvec r) (0,0) _ rfl J2.out.row Tryz.underlying81 rfl Y1.out) rfl ⟨rfl,J4.out.rowK (Nat.le_refl _) _⟩
end Go.Proofs.YtahkcemdbfjilaaGreatDoor.Sha
namespace Go.Proofs.YtahkcemdbfjilaaGreatDoor
open Go.RowKit
def lszs:List Nat:=[16,32,64,128,256]
set_option maxHeartbeats 4000000 in
theorem rsize_any (n:Int) (w:World):Calls Tryz.prog 105 #[.int .i64 n] w fun e w'=>e=.returned (.int .i64 (sizeI n:Int))∧Below w.heap.size w w':=by
 by_cases h1:n < 0
 · have HV:Hid ((sizeI n:Int)=0):=by show _=_;rw [sizeI_no n (.inl h1)];rfl
   go_enter Tryz.func105,Tryz.ntmps105
   go_wp2;go_ret;exact ⟨ret_i HV.out.symm,Below.refl _ _⟩
 · by_cases h2:4096 < n
   · have HV:Hid ((sizeI n:Int)=0):=by show _=_;rw [sizeI_no n (.inr h2)];rfl
     go_enter Tryz.func105,Tryz.ntmps105
     go_wp2;go_ret;exact ⟨ret_i HV.out.symm,Below.refl _ _⟩
   · obtain ⟨m,rfl⟩:=Int.eq_ofNat_of_zero_le (a:=n) (by omega)
     have h3:¬4096 < m:=by omega
     have HV:Hid ((sizeI (m:Int):Int)=(szL m:Int)):=by show _=_;rw [sizeI_nat m (by omega)]
     have HH:Hid (Has (w.alloc (.cells #[.int .i64 16,.int .i64 32,.int .i64 64,.int .i64 128,.int .i64 256] 3)) w.heap.size 3 #[.int .i64 16,.int .i64 32,.int .i64 64,.int .i64 128,.int .i64 256]):=Has.fresh w 3 _;have HB:Hid (Below w.heap.size w (w.alloc (.cells #[.int .i64 16,.int .i64 32,.int .i64 64,.int .i64 128,.int .i64 256] 3))):=(Below.refl _ _).alloc (Nat.le_refl _) _;go_enter Tryz.func105,Tryz.ntmps105
     go_wp2;go_loopw [4] (fun v wr=>∃k:Nat,v=.int .i64 (k:Int)∧k≤3∧Hid (k=0∨2 ^ (k - 1)*512 < m)∧wr=w.alloc (.cells #[.int .i64 16,.int .i64 32,.int .i64 64,.int .i64 128,.int .i64 256] 3)) (fun v _=>5 - (intOf v).toNat)
     case atStart=>exact ⟨0,rfl,by omega,(.inl rfl:0=0∨_),rfl⟩
     case round =>
      obtain ⟨k,rfl,hk,H,rfl⟩:=hrel;have w1:IntKind.i64.wrap ((k:Int)+1)=(k:Int)+1:=i64in _ (by omega) (by omega)
      have hk5:(k:Int) < 5:=by omega
      have c0:(w.alloc (.cells #[.int .i64 16,.int .i64 32,.int .i64 64,.int .i64 128,.int .i64 256] 3)).cell? ⟨w.heap.size,k,none⟩=some (.int .i64 ((lszs.getD k 0:Nat):Int)):=by
       rw [HH.out.at_];rcases k with _ | _ | _ | _ | k<;>first | rfl | omega
      obtain ⟨z,HZ⟩:∃z,Hid (lszs.getD k 0=z):=⟨_,rfl⟩;rw [HZ.out] at c0;have hz:z=16∨z=32∨z=64∨z=128:=by
       have:=HZ.out;rcases k with _ | _ | _ | _ | k
       · exact .inl this.symm
       · exact .inr (.inl this.symm)
       · exact .inr (.inr (.inl this.symm))
       · exact .inr (.inr (.inr this.symm))
       · omega
      have w2:IntKind.i64.wrap ((z:Int)*32)=(z:Int)*32:=i64in _ (by omega) (by omega)
      by_cases hlt:(m:Int)≤(z:Int)*32
      · have HE:Hid (z=szL m):=by
         show _=_
         have h5:szL m=if m≤512 then 16 else if m≤1024 then 32 else if m≤2048 then 64 else 128:=rfl
         have h6:=H.out;have h7:=HZ.out;rcases k with _ | _ | _ | _ | k
         · obtain rfl:z=16:=h7.symm
           rw [if_pos (by omega)] at h5;exact h5.symm
         · obtain rfl:z=32:=h7.symm
           simp at h6;rw [if_neg (by omega),if_pos (by omega)] at h5;exact h5.symm
         · obtain rfl:z=64:=h7.symm
           simp at h6;rw [if_neg (by omega),if_neg (by omega),if_pos (by omega)] at h5;exact h5.symm
         · obtain rfl:z=128:=h7.symm
           simp at h6;rw [if_neg (by omega),if_neg (by omega),if_neg (by omega)] at h5;exact h5.symm
         · omega
        clear hz;go_wp2;go_ret;exact ⟨ret_i (by rw [HV.out,HE.out]),HB.out⟩
      · have HN:Hid (k+1≤3∧2 ^ (k+1 - 1)*512 < m):=by
         show _∧_
         have h7:=HZ.out;rcases k with _ | _ | _ | _ | k
         · obtain rfl:z=16:=h7.symm
           simp;omega
         · obtain rfl:z=32:=h7.symm
           simp;omega
         · obtain rfl:z=64:=h7.symm
           simp;omega
         · obtain rfl:z=128:=h7.symm
           omega
         · omega
        clear hz;go_wp2;go_roundw
        case rel=>exact ⟨k+1,by go_num,HN.out.1,(.inr HN.out.2:k+1=0∨2 ^ (k+1 - 1)*512 < m),trivial⟩
        case measure=>simp [intOf];omega
end Go.Proofs.YtahkcemdbfjilaaGreatDoor
namespace Go.Proofs.YtahkcemdbfjilaaGreatDoor
open Go.RowKit
theorem rows_apart {w:World} {B1 B2:Nat} {e1 e2:TypeId} {s1 s2 n1 n2:Nat} {v1 v2:Value} {x1 x2:List Value} (h1:w.ownsRow B1 e1 s1 v1 n1 x1) (h2:w.ownsRow B2 e2 s2 v2 n2 x2) (hne:e1≠e2):v1.ownBlock=none∨v1.ownBlock≠v2.ownBlock:=by
 rcases h1.2 with ⟨k1,_⟩ | ⟨g,c,cur,k1,_,k3,_⟩
 · rw [k1];exact .inl rfl
 · refine .inr fun e=>?_
   rcases h2.2 with ⟨z1,_⟩ | ⟨g',c',cur',z1,_,z3,_⟩
   · rw [k1,z1] at e;cases e
   · rw [k1,z1] at e;injection e with e
     have e:g=g':=e;rw [e,z3] at k3;injection k3 with k3;injection k3 with _ k3;exact hne k3.symm
theorem cnt_iff (n k:Nat):k*szL n < n↔k < cntL n:=by
 have hp:=szL_pos n;rw [cntL,Nat.lt_div_iff_mul_lt hp];constructor<;>intro h<;>omega
theorem size_h (d:By) (hd:d.length=32):(Tryz.prog.info? 81).map (·.size)=some (hvec d).size:=by rw [hvec_size,hd];kernel_rfl
theorem size_z (d:By) (hd:d.length=32):(hvec (List.replicate 32 0)).size=(hvec d).size:=by rw [hvec_size,hvec_size,hd];rfl
theorem box_h (wr:World) (d:By) (_hd:d.length=32):∃W1,(wr.alloc (.cells (hvec (List.replicate 32 0)) 81)).setRow wr.heap.size (hvec d)=W1∧Hid (Has W1 wr.heap.size 81 (hvec d))∧Hid (Below wr.heap.size wr W1):=by
 refine ⟨_,rfl,?_,?_⟩
 · exact setRow_heap _ _ _ _ 81 (0,0) (Has.fresh wr 81 _)
 · exact ((Below.refl _ _).alloc (Nat.le_refl _) _).rowK (Nat.le_refl _) _
theorem hvec_one (l:List UInt8):(hvec l).all (·.oneCell')=true:=by simp [hvec,V8,Value.oneCell']
end Go.Proofs.YtahkcemdbfjilaaGreatDoor
namespace Go.Proofs.YtahkcemdbfjilaaGreatDoor
open Go.RowKit
theorem rsum_any (v:Value) (xs:By) (A:Option Addr) (cap bb off:Nat) (w:World) (h:Bytes w v xs A cap bb off) (hl:xs.length≤100000) :
 Calls Tryz.prog 164 #[v] w fun e w'=>e=.returned (.agg (hvec (dg xs)))∧Below w.heap.size w w':=by
 have e0:=h.form;rw [e0];refine (Sha.refSum_any xs A xs.length cap bb off w rfl hl ⟨rfl,h.le,h.zero,h.at_,h.blk,h.src⟩).mono ?_;rintro e w' ⟨rfl,hb⟩;refine ⟨?_,hb⟩;unfold dg;rfl
theorem infoB:(Tryz.prog.info? 79).map (fun i=>(i.zero,i.size,i.bytes))=some (some (.slice none 0 0),1,24):=by kernel_rfl
def Bls (B:Nat) (w:World) (v:Value) (xss:List By):Prop :=
 ∃vs:List Value,w.ownsRow B 79 1 v xss.length vs∧∀i,i < xss.length→∃u,vs[i]? = some u∧Fresh B w u (xss.getD i [])
theorem Bls.nil (B:Nat) (w:World):Bls B w (.slice none 0 0) []:=⟨[],World.ownsRow_nil _ _ _ _,fun i h=>by cases h⟩
theorem Bls.kept {B:Nat} {w w':World} {v:Value} {xss:List By} (h:Bls B w v xss) (hb:Below w.heap.size w w'):Bls B w' v xss:=by
 obtain ⟨vs,ho,hf⟩:=h;refine ⟨vs,row_of ho (fun g hg=>hb.block g (World.ownsRow.lt ho g hg).2),fun i hi=>?_⟩
 obtain ⟨u,h1,h2⟩:=hf i hi;exact ⟨u,h1,fresh_kept h2 hb⟩
theorem Bls.grown {B B2:Nat} {w w':World} {v v2:Value} {xss:List By} {e2:TypeId} {s2 n2:Nat} {x2:List Value} (h:Bls B w v xss) (h2:w.ownsRow B2 e2 s2 v2 n2 x2) (h3:79≠e2) (h4:5≠e2) (hg:w.grownBy w' v2.ownBlock):Bls B w' v xss:=by
 obtain ⟨vs,ho,hf⟩:=h;refine ⟨vs,World.ownsRow.kept ho hg (rows_apart ho h2 h3),fun i hi=>?_⟩
 obtain ⟨u,k1,k2⟩:=hf i hi;exact ⟨u,k1,World.ownsRow.kept k2 hg (rows_apart k2 h2 h4)⟩
theorem Bls.form {B:Nat} {w:World} {v:Value} {xss:List By} (h:Bls B w v xss):∃A c,v=.slice A xss.length c:=by
 obtain ⟨vs,ho,_⟩:=h;rcases ho.2 with ⟨h1,h2⟩ | ⟨g,c,cur,h1,_⟩
 · exact ⟨none,0,by rw [h1,h2]⟩
 · exact ⟨some ⟨g,0,none⟩,c,h1⟩
theorem Bls.at_ {B:Nat} {w:World} {v:Value} {xss:List By} (h:Bls B w v xss) (k:Nat) (hk:k < xss.length) :
 ∃g c u,v=.slice (some ⟨g,0,none⟩) xss.length c∧w.cell? ⟨g,k,none⟩=some u∧Fresh B w u (xss.getD k []):=by
 obtain ⟨vs,ho,hf⟩:=h;obtain ⟨u,h1,h2⟩:=hf k hk;rcases ho.2 with ⟨_,h3⟩ | ⟨g,c,cur,h3,hB,h4,h5⟩
 · omega
 · refine ⟨g,c,u,h3,?_,h2⟩
   subst h3;have:=World.ownsRow.cells (g:=g) ho rfl k u h1;rwa [add_at,Nat.zero_add] at this
theorem fresh_one {B:Nat} {w:World} {u:Value} {ys:By} (h:Fresh B w u ys):u.oneCell'=true:=by
 rcases h.2 with ⟨rfl,_⟩ | ⟨g,c,cur,rfl,_⟩<;>rfl
theorem append_bl (w:World) (B:Nat) (v:Value) (xss:List By) (h:Bls B w v xss) (u:Value) (ys:By) (hu:Fresh B w u ys) (a:Addr) (ha:w.cell? (a.add 0)=some u) (hn:xss.length≤100000) (hB:B≤w.heap.size) (ty:TypeId) :
 ∃v' w',(Builtin.append_ #[225,225] ty #[v,.slice (some a) 1 1]).run Tryz.prog w=.ok v' w'∧Bls B w' v' (xss++[ys])∧w.grownBy w' v.ownBlock:=by
 obtain ⟨vs,ho,hf⟩:=h;obtain ⟨i0,hi,hz0,hz1,hz2⟩:=info_parts infoB;obtain ⟨v',w',hr,ho',hg,_,_⟩:=run_append_own_at (P:=Tryz.prog) w B 225 ty 79 i0 (.slice none 0 0) 1 24 Tryz.underlying225 hi hz0 hz1 hz2 rfl (by omega) v xss.length vs ho a 1 1 [u] rfl (fun j u' hj=>by
  match j,hj with
  | 0,hj=>obtain rfl:=Option.some.inj hj;exact ha
  | j+1,hj=>simp at hj) (fun x hx=>by simp only [List.mem_singleton] at hx;subst hx;exact fresh_one hu) (by unfold maxLen;omega) (by omega) hB
 have hl:vs.length=xss.length:=by have:=ho.1;omega
 have hk:∀{u ys},Fresh B w u ys→Fresh B w' u ys:=fun hu=>World.ownsRow.kept hu hg (rows_apart hu ho (by decide))
 refine ⟨v',w',hr,⟨vs++[u],by rw [List.length_append];exact ho',fun i hi=>?_⟩,hg⟩
 rw [List.length_append,List.length_singleton] at hi;by_cases hlt:i < xss.length
 · obtain ⟨u',h1,h2⟩:=hf i hlt
   refine ⟨u',by rw [List.getElem?_append_left (by omega)];exact h1,?_⟩
   have:(xss++[ys]).getD i []=xss.getD i []:=by simp only [List.getD,List.getElem?_append_left hlt]
   rw [this];exact hk h2
 · obtain rfl:i=xss.length:=by omega
   refine ⟨u,by rw [List.getElem?_append_right (by omega),hl];simp,?_⟩
   have:(xss++[ys]).getD xss.length []=ys:=by simp [List.getD]
   rw [this];exact hk hu
def blocksTo (xs:By) (k:Nat):List By:=(List.range k).map (partL xs)
def blocksL (xs:By):List By:=if xs.length≤4096 then blocksTo xs (cntL xs.length) else []
theorem blocksTo_len (xs:By) (k:Nat):(blocksTo xs k).length=k:=by simp [blocksTo]
theorem blocksTo_next (xs:By) (k:Nat):blocksTo xs (k+1)=blocksTo xs k++[partL xs k]:=by simp [blocksTo,List.range_succ]
theorem blocksTo_at (xs:By) (k i:Nat) (h:i < k):(blocksTo xs k).getD i []=partL xs i:=by simp [blocksTo,List.getD,h]
theorem blocksL_long (xs:By) (h:4096 < xs.length):blocksL xs=[]:=by rw [blocksL,if_neg (by omega)]
theorem blocksL_ok (xs:By) (h:xs.length≤4096):blocksL xs=blocksTo xs (cntL xs.length):=by rw [blocksL,if_pos h]
set_option maxHeartbeats 4000000 in
theorem rblocks_any (v:Value) (xs:By) (A:Option Addr) (cap bb off:Nat) (w:World) (h:Bytes w v xs A cap bb off) (hp:0 < w.heap.size) (hmax:xs.length≤100000) :
 Calls Tryz.prog 163 #[v] w fun e w'=>∃v',e=.returned v'∧Bls w.heap.size w' v' (blocksL xs)∧Below w.heap.size w w':=by
 have e0:=h.form;obtain ⟨n,HN⟩:∃n,Hid (xs.length=n):=⟨_,rfl⟩;by_cases hl:4096 < xs.length
 · have HV:Hid (blocksL xs=[]):=blocksL_long xs hl
   rw [HN.out] at e0 hl;have C1:=hid (rsize_any (n:Int) w);rw [sizeI_no (n:Int) (.inr (by omega))] at C1
   rw [e0];clear h e0 hl hmax;go_enter Tryz.func163,Tryz.ntmps163
   go_wp2_with (go_at_call 105;refine C1.out.mono ?_;rintro e1 w1 ⟨rfl,hb1⟩)
   go_loopw [4,5,6] (fun v4 v5 _ wr=>v4=.slice none 0 0∧v5=.int .i64 0∧wr=w1) (fun _ _ _ _=>0)
   case atStart=>exact ⟨rfl,rfl,rfl⟩
   case round =>
    obtain ⟨rfl,rfl,rfl⟩:=hrel;go_wp2;go_ret;exact ⟨_,rfl,by rw [HV.out];exact Bls.nil _ _,hb1⟩
 · have hl:xs.length≤4096:=by omega
   have HV:Hid (blocksL xs=blocksTo xs (cntL xs.length)):=blocksL_ok xs hl;have C1:=hid (rsize_any (n:Int) w);rw [sizeI_nat n (by rw [←HN.out];exact hl)] at C1
   have HK:=hid (fun k=>cnt_iff xs.length k)
   obtain ⟨s,HS⟩:∃s,Hid (szL xs.length=s):=⟨_,rfl⟩;obtain ⟨c,HC⟩:∃c,Hid (cntL xs.length=c):=⟨_,rfl⟩;have hc32:c≤32:=by rw [←HC.out];exact cntL_le _ hl
   have hs:=szL_cases xs.length;rw [HS.out] at hs;rw [show szL n=s by rw [←HN.out,HS.out]] at C1
   have HKK:Hid (∀k:Nat,k*s < n↔k < c):=fun k=>by
    have:=HK.out k;rw [HS.out,HC.out,HN.out] at this;exact this
   clear HK;have HBY:=hid h;have hle:=h.le;rw [HN.out] at hle e0;have hn:n≤4096:=by rw [←HN.out];exact hl
   have hncap:(n:Int)≤(cap:Int):=by omega
   rw [HC.out] at HV;have hs0:(0:Int) < (s:Int):=by omega
   have hs8:s≤128:=by omega
   have HPOS:=hid hp;rw [e0] at HBY ⊢;clear h e0 hl hmax hle hs hp;go_enter Tryz.func163,Tryz.ntmps163
   go_wp2_with (go_at_call 105;refine C1.out.mono ?_;rintro e1 w1 ⟨rfl,hb1⟩)
   have HB1:=hid hb1;clear hb1;go_loopw [4,5,6] (fun v4 v5 _ wr=>∃k m:Nat,k≤c∧k*s=m∧v5=.int .i64 (m:Int)∧Hid (Bls w.heap.size wr v4 (blocksTo xs k))∧Hid (Below w.heap.size w wr)) (fun _ v5 _ _=>5000 - (intOf v5).toNat)
   case atStart=>exact ⟨0,0,by omega,by omega,rfl,Bls.nil _ _,HB1.out⟩
   case round =>
    obtain ⟨k,m,hk,hkm,rfl,J1,J2⟩:=hrel;have hK:=HKK.out k;rw [hkm] at hK;by_cases hlt:m < n
    · have hlt2:(m:Int) < (n:Int):=by omega
      have HKC:Hid (k < c):=hK.1 hlt;obtain ⟨q,hq⟩:∃q:Nat,m+s=q:=⟨_,rfl⟩;have hkq:(k+1)*s=q:=by rw [Nat.add_mul,hkm];omega
      have w1:IntKind.i64.wrap ((m:Int)+(s:Int))=(q:Int):=by rw [←hq];exact i64in _ (by omega) (by omega)
      obtain ⟨p,HP⟩:∃p,Hid (min s (n - m)=p):=⟨_,rfl⟩;have hp:=HP.out;have hBk:=HBY.out.kept J2.out (Nat.le_refl _);have hsrc:=hBk.src (by rw [HN.out];omega)
      subst hsrc;have hcm:¬cap=m:=by omega
      have hmn:(m:Int)≤(n:Int):=by omega
      have HMID:=(hBk.mid m p (by rw [HN.out];omega) (by omega)).2
      have HVS:Hid ((xs.drop m).take p=partL xs k):=by
       show _=_
       rw [partL,HS.out,hkm,←HP.out];have hl:(xs.drop m).length=n - m:=by rw [List.length_drop,HN.out]
       rw [Nat.min_comm,←hl,←List.take_take];exact List.take_of_length_le (by rw [List.length_take];omega)
      rw [HVS.out] at HMID;obtain ⟨v5,w5,hr5,hf5,hg5⟩:=fresh_app (fresh_nil w.heap.size wr) HMID (by have:=partL_le xs k;simp;omega) J2.out.size
      rw [List.nil_append] at hf5;obtain ⟨A5,c5,b5,hy5,_,_⟩:=hf5.bytes (Nat.lt_of_lt_of_le HPOS.out (Nat.le_trans J2.out.size hg5.size));have e5:=hy5.form;generalize (partL xs k).length=m5 at e5;subst e5;clear hy5;have B5:Below wr.heap.size wr w5:=(Below.refl _ _).grown hg5 (Nat.le_refl _) (fun _ e=>by cases e)
      have B5w:Below w.heap.size w w5:=J2.out.trans (B5.mono J2.out.size);have L5:Bls w.heap.size w5 u4 (blocksTo xs k):=J1.out.kept B5;have BA:Below w5.heap.size w5 (w5.alloc (.cells #[.slice A5 m5 c5] 79)):=(Below.refl _ _).alloc (Nat.le_refl _) _;obtain ⟨v6,w6,hr6,hl6,hg6⟩:=append_bl (w5.alloc (.cells #[.slice A5 m5 c5] 79)) w.heap.size u4 (blocksTo xs k) (L5.kept BA) (.slice A5 m5 c5) (partL xs k) (fresh_kept hf5 BA) ⟨w5.heap.size,0,none⟩ (by rw [add_at];exact (Has.fresh w5 79 #[.slice A5 m5 c5]).at_ 0) (by rw [blocksTo_len];omega) (by have:=B5w.size;simp;omega) 225
      rw [←blocksTo_next] at hl6;have B6:Hid (Below w.heap.size w w6):=(B5w.alloc B5w.size (.cells #[.slice A5 m5 c5] 79)).grown hg6 (by have:=B5w.size;simp;omega) (fun g hg=>by
       obtain ⟨vs,ho,_⟩:=L5;exact (World.ownsRow.lt ho g hg).1)
      have R5:=hid hr5;have R6:=hid hr6;have L6:=hid hl6;clear hf5 hg5 hr5 B5 B5w L5 BA hr6 hl6 hg6 HMID HVS hBk hK;rcases Nat.lt_or_ge n q with hqn | hqn
      · have hp2:p=n - m:=by omega
        have h5:(n:Int) < (q:Int):=by omega
        have h6:¬(q:Int)≤(n:Int):=by omega
        have h8:min (q:Int) (n:Int)=(n:Int):=by omega
        rw [hp2] at R5;clear hp hp2 HP;go_wp2_with (first
         | (at_builtin;refine wpList_append_run rfl (.tmp 21) (.tmp 30) 79 79 rfl ⟨_,_,R5.out,?_⟩)
         | (at_builtin;refine wpList_append_run rfl (.tmp 32) (.tmp 34) 225 225 rfl ⟨_,_,R6.out,?_⟩))
        go_roundw
        case rel=>exact ⟨k+1,q,HKC.out,hkq,by go_num,L6.out,B6.out⟩
        case measure=>simp [intOf];omega
      · have hp2:p=q - m:=by omega
        have h5:(q:Int)≤(n:Int):=by omega
        have h6:(m:Int)≤(q:Int):=by omega
        have h7:(q:Int)≤(cap:Int):=by omega
        have h8:min (q:Int) (n:Int)=(q:Int):=by omega
        rw [hp2] at R5;clear hp hp2 HP;go_wp2_with (first
         | (at_builtin;refine wpList_append_run rfl (.tmp 21) (.tmp 30) 79 79 rfl ⟨_,_,R5.out,?_⟩)
         | (at_builtin;refine wpList_append_run rfl (.tmp 32) (.tmp 34) 225 225 rfl ⟨_,_,R6.out,?_⟩))
        go_roundw
        case rel=>exact ⟨k+1,q,HKC.out,hkq,by go_num,L6.out,B6.out⟩
        case measure=>simp [intOf];omega
    · have hlt2:¬(m:Int) < (n:Int):=by omega
      have HE:Hid (k=c):=by show _=_;have:¬k < c:=fun e=>hlt (hK.2 e);omega
      clear hK;go_wp2;go_ret;exact ⟨_,rfl,by rw [HV.out,←HE.out];exact J1.out,J2.out⟩
end Go.Proofs.YtahkcemdbfjilaaGreatDoor
