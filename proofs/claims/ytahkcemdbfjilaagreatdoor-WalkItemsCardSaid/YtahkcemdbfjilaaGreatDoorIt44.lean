/- Several texts in one. Conditions: those said at each. -/
import Derived.Test.YtahkcemdbfjilaaGreatDoorIt00
import Derived.Test.YtahkcemdbfjilaaGreatDoorIt36
set_option linter.unusedSimpArgs false
set_option linter.unusedVariables false
set_option maxRecDepth 100000
namespace Go.Proofs.YtahkcemdbfjilaaGreatDoor
open Go.RowKit Go.Maps
theorem conv_fresh {B:Nat} {w:World} {v:Value} {xs:By} (h:Fresh B w v xs) (hw:0 < w.heap.size):(convert 79 9 v).run Tryz.prog w=.ok (kS xs) w:=by
 obtain ⟨A,c,b,hy,_⟩:=own_bytes rfl hw h;exact conv_back hy
theorem notFirm_put:¬Firm 89:=by unfold Firm;decide
theorem notFirm_u8:¬Firm 5:=by unfold Firm;decide
def MadeP (w:World) (M:Mo) (e:Ending) (w':World):Prop:=∃p q,e=.returned (.tuple #[.pointer (some ⟨p,0,none⟩),.pointer (some ⟨q,0,none⟩)])∧Lv w w' [.d p M,.r q M]
set_option maxHeartbeats 16000000 in
theorem made_any {A:Option Addr} {n cap bb off:Nat} {xs:List PutT} (w:World) (hI:PutsIn w A n bb off xs) (hG:Gd w) (hn:n≤40) (hsm:∀x∈xs,x.p.length≤400∧x.text.length≤8000) :
 Calls Tryz.prog 10 #[.slice A n cap] w fun e w'=>MadeP w (madeM xs) e w':=by
 have H:=hid hI;have HG:=hid hG;have HLEN:=hid hI.len;have HSM:=hid hsm;have C1:=hid (lNew (Lv.nil w) 262144 (by omega) (by omega))
 clear hI hG hsm;go_enter Tryz.func10,Tryz.ntmps10
 go_wp2_with fail
 refine C1.out.mono ?_;rintro e1 w1 ⟨p,rfl,hl1⟩;have C2:=hid (gMade hl1 262144 (by omega) (by omega))
 clear hl1 C1;go_wp2_with fail
 refine C2.out.mono ?_;rintro e2 w2 ⟨q,rfl,hl2⟩;have L2:Hid (Lv w w2 [.d p (madeM []),.r q (madeM [])]):=hl2.swap;clear hl2 C2;go_wp2;go_loopw [7] (fun v7 wr=>∃k:Nat,v7=.int .i64 (k:Int)∧k≤n∧Hid (Lv w wr [.d p (madeM (xs.take k)),.r q (madeM (xs.take k))])) (fun v7 _=>n - (intOf v7).toNat)
 case atStart=>exact ⟨0,rfl,by omega,by show Lv _ _ _;rw [List.take_zero];exact L2.out⟩
 case round =>
  obtain ⟨k,rfl,hk,J1⟩:=hrel;by_cases hlt:k < n
  · have hA := (H.out.src (by omega)).1
    subst hA;have hmem:=put_mem (xs:=xs) (k:=k) (by rw [HLEN.out];exact hlt)
    have HX:=hid ((H.out.at_ k hlt).on J1.out.bl);have HOK:=hid (H.out.ok _ hmem);obtain ⟨hs1,hs2⟩:=HSM.out _ hmem;have HSI:Hid ((madeM (xs.take k)).since.length≤40*202):=by
     have h1:=since_made (xs.take k);rw [List.length_take] at h1;show _≤_;have:min k xs.length*202≤40*202:=Nat.mul_le_mul_right _ (by omega)
     omega
    have HN:Hid (madeM (xs.take (k+1))=putM (madeM (xs.take k)) (xs.getD k put0)):=by
     show _=_
     rw [List.take_succ_eq_append_getElem (by rw [HLEN.out];exact hlt),madeM_snoc,List.getD,List.getElem?_eq_getElem (by rw [HLEN.out];exact hlt)];rfl
    obtain ⟨x,hx⟩:∃x,xs.getD k put0=x:=⟨_,rfl⟩;rw [hx] at HX HOK HN hs1 hs2;obtain ⟨kd,P,T,lg,tm⟩:=x;dsimp only at hs1 hs2;have HPL:=hid hs1;have HTL:=hid hs2;obtain ⟨N,HNN⟩:∃N,Hid (pdN ⟨kd,P,T,lg,tm⟩=N):=⟨_,rfl⟩;obtain ⟨s,HS⟩:∃s:Nat,Hid (T.length=s):=⟨_,rfl⟩;obtain ⟨D,HDD0⟩:∃D,Hid (pdL ⟨kd,P,T,lg,tm⟩=D):=⟨_,rfl⟩;have HDL:Hid (D.length≤6000):=by show _≤_;rw [←HDD0.out];exact pdL_len _
    have HDD:Hid (pdTo T N=D):=by show _=_;rw [←HDD0.out,←HNN.out];unfold pdL;rfl
    have HNL:Hid (N=if s=0 then 0 else min lg.toNat 6000):=by show _=_;rw [←HNN.out,←HS.out];rfl
    obtain ⟨M0,HM0⟩:∃M0,Hid (madeM (xs.take k)=M0):=⟨_,rfl⟩;obtain ⟨M9,HM9⟩:∃M9,Hid (madeM (xs.take (k+1))=M9):=⟨_,rfl⟩;rw [HM0.out] at J1 HSI HN;rw [HM9.out] at HN;have hlt':(k:Int) < (n:Int):=by omega
    have h0:(0:Int)≤(k:Int):=by omega
    have w1i:IntKind.i64.wrap ((k:Int)+1)=(k:Int)+1:=i64in _ (by omega) (by omega)
    obtain ⟨W3,hW3⟩:∃W3,(wr.alloc (.cells #[.int .i64 0,.string ⟨#[]⟩,.string ⟨#[]⟩,.int .i64 0,.int .i64 0] 89)).setRow wr.heap.size #[.int .i64 kd,kS P,kS T,.int .i64 lg,.int .i64 tm]=W3:=⟨_,rfl⟩;have FZ:Hid (Has (wr.alloc (.cells #[.int .i64 0,.string ⟨#[]⟩,.string ⟨#[]⟩,.int .i64 0,.int .i64 0] 89)) wr.heap.size 89 #[.int .i64 0,.string ⟨#[]⟩,.string ⟨#[]⟩,.int .i64 0,.int .i64 0]):=Has.fresh _ _ _;have b3:Below wr.heap.size wr W3:=hW3▸((Below.refl _ _).alloc (Nat.le_refl _) _).rowK (Nat.le_refl _) _;have F3:Has W3 wr.heap.size 89 #[.int .i64 kd,kS P,kS T,.int .i64 lg,.int .i64 tm]:=by rw [←hW3];exact FZ.out.row
    have L3:Hid (Lv w W3 [.d p M0,.r q M0,.h wr.heap.size 89 #[.int .i64 kd,kS P,kS T,.int .i64 lg,.int .i64 tm]]) :=
     (J1.out.push (y:=.h wr.heap.size 89 #[.int .i64 kd,kS P,kS T,.int .i64 lg,.int .i64 tm]) (own:=fun g=>g=wr.heap.size) ⟨⟨fun _ k=>k,rfl,F3⟩,notFirm_put⟩ (fun g k=>by rw [k];exact Nat.le_refl _) b3).back
    have c1:W3.cell? ⟨wr.heap.size,1,none⟩=some (kS P):=F3.at_ 1;have CW:Hid (Calls Tryz.prog 36 #[kS P] W3 fun e w'=>WaysP W3 P e w'):=ways_any P W3 (by omega)
    clear b3 F3 hx hmem;go_wp2_with (first
     | (refine wpList_load_g (by rfl) 89 (.tmp 28) rfl bb (off+k*5) rfl #[.int .i64 kd,kS P,kS T,.int .i64 lg,.int .i64 tm] HX.out.load ?_)
     | (refine wpList_store_row rfl 89 (.tmp 8) (.tmp 29) rfl wr.heap.size #[.int .i64 kd,kS P,kS T,.int .i64 lg,.int .i64 tm] rfl rfl 89 _ FZ.out (by kernel_rfl) rfl (by simp [Value.oneCell']) ?_;rw [hW3]))
    refine CW.out.mono ?_;rintro e3 w4 ⟨A4,c4,rfl,hs4,hb4⟩;obtain ⟨l,HL⟩:∃l,Hid (waysL P=l):=⟨_,rfl⟩;have HLS:Hid (∀y∈l,y.length≤400):=fun y hy=>by have:=waysL_short P y (by rw [HL.out];exact hy);omega
    have HLN:Hid (l.length≤201):=by have:=waysL_len P;rw [HL.out] at this;exact this
    have HLP:Hid (0 < l.length):=by show _ < _;rw [←HL.out];unfold waysL;rw [List.length_append,List.length_singleton];omega
    rw [HL.out] at hs4;rw [HL.out];have S4:=hid hs4;have L4:=hid (L3.out.on hb4);obtain ⟨m,HM⟩:∃m,Hid (l.length=m):=⟨_,rfl⟩;rw [HM.out] at S4 HLN HLP ⊢;obtain ⟨g4,c5,hg4,hg5,_⟩:=strR_at S4.out (by rw [HM.out];exact HLP.out)
    rw [HM.out] at hg4;injection hg4 with hg4 hg6 hg7;clear hg6 hg7 hg5;subst hg4;clear hs4 hb4 c1 CW FZ hW3 HX J1 L3;obtain ⟨wA,rfl⟩:∃wA,wA=wr:=⟨_,rfl⟩;obtain ⟨b,hb⟩:∃b,wA.heap.size=b:=⟨_,rfl⟩;rw [hb] at L4 ⊢;clear hb;have hml:=HLN.out;have hm0:=HLP.out;have FW:Hid (∀W,StrR W3.heap.size W (.slice (some ⟨g4,0,none⟩) m c4) l→∀j,(hj:j < m)→W.cell? ⟨g4,j,none⟩=some (kS (l[j]'(by rw [HM.out];exact hj)))):=fun W hW j hj=>by
     obtain ⟨g',c',e,_,hc⟩:=strR_at hW (by rw [HM.out];omega)
     injection e with e1 _ _;injection e1 with e1;injection e1 with e1 _ _;subst e1;exact hc j (by rw [HM.out];exact hj)
    go_wp2;go_loopw [10] (fun v10 wr1=>∃j:Nat,v10=.int .i64 (j:Int)∧j+1≤m∧Hid (StrR W3.heap.size wr1 (.slice (some ⟨g4,0,none⟩) m c4) l)∧Hid (Lv w wr1 [.d p (waysM M0 (l.take j)),.r q (waysM M0 (l.take j)),.h b 89 #[.int .i64 kd,kS P,kS T,.int .i64 lg,.int .i64 tm]])) (fun v10 _=>m - (intOf v10).toNat)
    case atStart=>exact ⟨0,rfl,by omega,S4.out,by show Lv _ _ _;rw [List.take_zero];exact L4.out⟩
    case round =>
     obtain ⟨j,rfl,hj,K1,K2⟩:=hrel;by_cases hjl:j+1 < m
     · have hjm:j < m:=by omega
       have hjl2:j < l.length:=by rw [HM.out];exact hjm
       have c6:=FW.out _ K1.out j hjm;have hy:=HLS.out _ (List.getElem_mem hjl2);have HY:Hid (waysM M0 (l.take (j+1))=(doM (waysM M0 (l.take j)) (.mkdir l[j])).2):=by show _=_;rw [List.take_succ_eq_append_getElem hjl2,waysM_snoc]
       have HFW:Hid (∀W,StrR W3.heap.size W (.slice (some ⟨g4,0,none⟩) m c4) l→W.cell? ⟨g4,j,none⟩=some (kS l[j])):=fun W hW=>FW.out W hW j hjm
       have hsi:(waysM M0 (l.take j)).since.length+1≤100000:=by
        have h1:=since_ways (l.take j) M0;rw [List.length_take] at h1;have:=HSI.out;omega
       generalize l[j]=y at c6 hy HY HFW;obtain ⟨K,HK⟩:∃K,Hid (waysM M0 (l.take j)=K):=⟨_,rfl⟩;rw [HK.out] at K2 HY hsi;have CM:=hid (gMkdir K2.out HG.out y (by omega) hsi)
       have jlt:(j:Int)+1 < (m:Int):=by omega
       have j0:(0:Int)≤(j:Int):=by omega
       have jlt2:(j:Int) < (m:Int):=by omega
       have w1j:IntKind.i64.wrap ((j:Int)+1)=(j:Int)+1:=i64in _ (by omega) (by omega)
       have HSJ:=hid hsi;have HYL:=hid hy;clear hsi hy;go_wp2_with (go_at_call 37;refine CM.out.mono ?_;rintro e4 w5 ⟨rfl,hl5,hx5⟩;have L5:=hid hl5;have S5:=hid (K1.out.gx hx5);have c7:=HFW.out _ S5.out;clear hl5 hx5)
       refine (rDo3 L5.out.swap y (by have:=HYL.out;omega) HSJ.out).mono ?_;rintro e5 w6 ⟨rfl,hl6,hx6⟩
       have L6:=hid hl6.swap;have S6:=hid (S5.out.gx hx6);clear hl6 hx6 c7;go_wp2;go_roundw
       case rel=>exact ⟨j+1,by go_num,by omega,S6.out,by show Lv _ _ _;rw [HY.out];exact L6.out⟩
       case measure=>simp [intOf];omega
     · have hje:j+1=m:=by omega
       have HD:Hid (l.take j=l.dropLast):=by show _=_;rw [List.dropLast_eq_take,HM.out,show m - 1=j by omega]
       have jge:¬(j:Int)+1 < (m:Int):=by omega
       have w1j:IntKind.i64.wrap ((j:Int)+1)=(j:Int)+1:=i64in _ (by omega) (by omega)
       obtain ⟨K,HK⟩:∃K,Hid (waysM M0 l.dropLast=K):=⟨_,rfl⟩;have L7:Hid (Lv w wr [.d p K,.r q K,.h b 89 #[.int .i64 kd,kS P,kS T,.int .i64 lg,.int .i64 tm]]):=by rw [←HK.out,←HD.out];exact K2.out
       have HKS:Hid (K.since.length+1≤100000):=by
        have h1:=since_ways l.dropLast M0;rw [HK.out,List.length_dropLast] at h1;have:=HSI.out;have:=HM.out;show _≤_;omega
       have HQ1:Hid (kd=1→(doM K (.write P D tm)).2=M9):=fun e=>by rw [HN.out];unfold putM putF;rw [HL.out,HK.out];dsimp only;rw [HDD0.out,if_pos e]
       have HQ2:Hid (¬kd=1→kd=2→(doM K (.mkdir P)).2=M9):=fun e1 e=>by rw [HN.out];unfold putM putF;rw [HL.out,HK.out];dsimp only;rw [if_neg e1,if_pos e]
       have HQ3:Hid (¬kd=1→¬kd=2→kd=3→(doM K (.link P T tm)).2=M9):=fun e1 e2 e=>by rw [HN.out];unfold putM putF;rw [HL.out,HK.out];dsimp only;rw [if_neg e1,if_neg e2,if_pos e]
       have HQ4:Hid (¬kd=1→¬kd=2→¬kd=3→K=M9):=fun e1 e2 e3=>by rw [HN.out];unfold putM putF;rw [HL.out,HK.out];dsimp only;rw [if_neg e1,if_neg e2,if_neg e3]
       obtain ⟨W7,rfl⟩:∃W7,W7=wr:=⟨_,rfl⟩;have F7:Hid (Has W7 b 89 #[.int .i64 kd,kS P,kS T,.int .i64 lg,.int .i64 tm]):=L7.out.hasH (by simp)
       clear K1 K2 FW S4 L4;go_wp2;have HTX:Hid ((ba T).size=s):=by show _=_;rw [ba_size];exact HS.out
       go_loopw [11,12] (fun v11 v12 wr1=>∃j:Nat,j≤N∧v12=.int .i64 (j:Int)∧Hid (Fresh W7.heap.size wr1 v11 (pdTo T j))∧Hid (Below W7.heap.size W7 wr1)) (fun _ v12 _=>N - (intOf v12).toNat)
       case atStart=>exact ⟨0,by omega,rfl,fresh_nil _ _,Below.refl _ _⟩
       case round =>
        obtain ⟨j,hj,rfl,K1,K2⟩:=hrel;have J2:=hid (F7.out.kept K2.out F7.out.inside);have c2:wr.cell? ⟨b,2,none⟩=some (kS T):=J2.out.at_ 2;have c3:wr.cell? ⟨b,3,none⟩=some (.int .i64 lg):=J2.out.at_ 3;have hs2:((ba T).size:Int)=(s:Int):=by rw [HTX.out]
        by_cases hlt:j < N
        · have hs1:(0:Int) < (s:Int):=by have hmL:=HNL.out;split at hmL<;>omega
          have hkL:(j:Int) < lg:=by have hmL:=HNL.out;rw [if_neg (by omega)] at hmL;omega
          have hk5:(j:Int) < 6000:=by have hmL:=HNL.out;rw [if_neg (by omega)] at hmL;omega
          have w1:IntKind.i64.wrap ((j:Int)+1)=(j:Int)+1:=i64in _ (by omega) (by omega)
          obtain ⟨i,HJ⟩:∃i,Hid (j % s=i):=⟨_,rfl⟩;have hi:i < s:=by rw [←HJ.out];exact Nat.mod_lt _ (by omega)
          obtain ⟨z,HZ⟩:∃z,Hid (at8 T i=z):=⟨_,rfl⟩;obtain ⟨v5,w5,hr5,hf5,hb5⟩:=append_byte wr.drew W7.heap.size u11 (pdTo T j) (fresh_kept K1.out (Below.refl _ _).drew) (by rw [pdTo_len];omega) (by show _≤wr.heap.size;exact K2.out.size) z
          have hnx:=pdTo_next T j;rw [HS.out,HJ.out,HZ.out] at hnx;rw [←hnx] at hf5;have R5:=hid hr5;have F5:=hid hf5;have r2:(j:Int).tmod (s:Int)=(i:Int):=by rw [←HJ.out];exact rem_nat j s
          have r3:¬(s:Int)=0:=by omega
          have hixj:∀w,(Instr.index 9 (kS T) (.int .i64 (i:Int))).run Tryz.prog w=.ok (.int .u8 (b8 (at8 T i))) w:=fun w=>by
           have:=index_at (ba T) i (by rw [ba_size,HS.out];exact hi) w
           rw [tl_ba] at this;exact this
          rw [HZ.out] at hixj;have J2d:Hid (Has wr.drew b 89 #[.int .i64 kd,kS P,kS T,.int .i64 lg,.int .i64 tm]):=J2.out;have J3d:=hid K2.out.drew;obtain ⟨bz,HBZ⟩:∃bz,Hid (b8 z=bz):=⟨_,rfl⟩;rw [HBZ.out] at hixj R5;have r4:¬s=0:=by omega
          have HB5:Hid (Below W7.heap.size W7 w5):=J3d.out.trans hb5;have HJ5:Hid (Has w5 b 89 #[.int .i64 kd,kS P,kS T,.int .i64 lg,.int .i64 tm]):=F7.out.kept HB5.out F7.out.inside;clear hr5 hf5 hb5 hnx;go_wp2;refine wp_region_noPanic ?_;refine wp_region_held_drew (S:=fun W=>W.cell? ⟨b,2,none⟩=some (kS T)) (by kernel_rfl) (J2d.out.at_ 2) (fun hS=>?_)
          generalize wr.drew=w3 at *;refine inI 0 ?_
          iterate 9
           refine stI (v:=?_) (by simp only [lkA,lkB,lkC];rfl) (by kernel_rfl) (fun _ _ _ h=>h) (by rfl) (by assumption) ?_ ?_
           rotate_left 1
           · intro w hSw
             go_simp
             with_reducible rfl
           simp only [Act.put,siA,siB,siC,Nat.reduceAdd]
          refine outI ?_;refine wpAnyH_ready (rs:=[9]) (by kernel_rfl) (by simp) ?_
          refine AllReadyH.cons (by simp only [lkA,lkB,lkC];rfl) (fun K hK=>?_) (AllReadyH.nil)
          go_simp;refine hK.out _ _ (((Below.refl _ _).alloc (Nat.le_refl _) _).cell (p:=⟨b,2,none⟩) J2d.out.inside |>.trans (J2d.out.at_ 2)) (fun hS=>?_)
          clear hK K;refine wpAnyH_ready (rs:=[10]) (by kernel_rfl) (by simp) ?_
          refine AllReadyH.cons (by simp only [lkA,lkB,lkC];rfl) (fun K hK=>?_) (AllReadyH.nil)
          refine step_append_run (by rfl) (.tmp 69) (.tmp 78) 79 79 rfl u11 (.slice (some ⟨w3.heap.size,0,none⟩) 1 1) rfl rfl R5.out ?_
          refine hK.out _ _ (HJ5.out.at_ 2) (fun hS=>?_)
          clear hK K;refine tkH 11 (v:=?_) (by simp only [lkA,lkB,lkC];rfl) (by kernel_rfl) (fun _ _ _ h=>h) (by rfl) (by assumption) ?_ ?_
          rotate_left 1
          · intro w hSw
            go_simp
            with_reducible rfl
          simp only [Act.put,siA,siB,siC];refine wpAnyH_done (by kernel_rfl) ?_ _
          refine NoPanic.normal ?_;go_wp2;go_roundw
          case rel=>exact ⟨j+1,by omega,by go_num,F5.out,HB5.out⟩
          case measure=>simp [intOf];omega
        · obtain rfl:j=N:=by omega
          have hend:¬(j:Int) < lg∨((j:Int) < lg∧¬(j:Int) < 6000)∨((j:Int) < lg∧(j:Int) < 6000∧¬(0:Int) < (s:Int)):=by have hmL:=HNL.out;split at hmL<;>omega
          have K3:Hid (Fresh W7.heap.size wr u11 D):=by rw [←HDD.out];exact K1.out
          have L9:=hid (((L7.out.srow K3.out (Nat.le_refl _) K2.out notFirm_u8)).back);obtain ⟨A6,c6,hfm⟩:∃A6 c6,u11=.slice A6 D.length c6:=by
           have h:=K3.out;rcases h.2 with ⟨h1,h2⟩ | ⟨g,c,cur,h1,_⟩
           · exact ⟨none,0,by rw [h1,h2]⟩
           · exact ⟨some ⟨g,0,none⟩,c,h1⟩
          subst hfm;have hcv:=conv_fresh K3.out (Nat.lt_of_lt_of_le HG.out.pos (Nat.le_trans L7.out.bl.size K2.out.size));have c0:wr.cell? ⟨b,0,none⟩=some (.int .i64 kd):=J2.out.at_ 0;have c1:wr.cell? ⟨b,1,none⟩=some (kS P):=J2.out.at_ 1;have c4:wr.cell? ⟨b,4,none⟩=some (.int .i64 tm):=J2.out.at_ 4;clear K1;rcases hend with h1 | ⟨h0,h1⟩ | ⟨h0,h1,h2⟩
          · skip
            by_cases n1:kd=1
            · have q1:(kd == 1)=true:=by simpa using n1
              have HE:=hid (HQ1.out n1);go_wp2_with (go_at_call 39;refine (gWrite L9.out HG.out P D tm (by have:=HPL.out;omega) (by have:=HDL.out;omega) (by have:=HKS.out;omega)).mono ?_;rintro e4 w10 ⟨rfl,hl4,hx4⟩;have L10:=hid hl4;have F10:=hid (hl4.hasH (b:=b) (t:=89) (cs:=#[.int .i64 kd,kS P,kS T,.int .i64 lg,.int .i64 tm]) (by simp));have d1:w10.cell? ⟨b,1,none⟩=some (kS P):=F10.out.at_ 1;have d4:w10.cell? ⟨b,4,none⟩=some (.int .i64 tm):=F10.out.at_ 4;have hcv10:=conv_fresh (B:=0) (w:=w10) (v:=.slice A6 D.length c6) (xs:=D) (hl4.hasS (by simp)) (Nat.lt_of_lt_of_le HG.out.pos hl4.bl.size);clear hl4 hx4)
              refine (rDo1 L10.out.swap P D tm (by have:=HPL.out;omega) (by have:=HDL.out;omega) (by have:=HKS.out;omega)).mono ?_;rintro e5 w11 ⟨rfl,hl5,hx5⟩
              have L11:=hid (Lv.drop3 (Lv.drop3 hl5.swap));clear hl5 hx5 d1 d4 hcv10;go_wp2;go_roundw
              case rel=>exact ⟨k+1,by go_num,by omega,by show Lv _ _ _;rw [HM9.out,←HE.out];exact L11.out⟩
              case measure=>simp [intOf];omega
            · have q1:(kd == 1)=false:=by simpa using n1
              by_cases n2:kd=2
              · have q2:(kd == 2)=true:=by simpa using n2
                have HE:=hid (HQ2.out n1 n2);go_wp2_with (go_at_call 37;refine (gMkdir L9.out HG.out P (by have:=HPL.out;omega) (by have:=HKS.out;omega)).mono ?_;rintro e4 w10 ⟨rfl,hl4,hx4⟩;have L10:=hid hl4;have F10:=hid (hl4.hasH (b:=b) (t:=89) (cs:=#[.int .i64 kd,kS P,kS T,.int .i64 lg,.int .i64 tm]) (by simp));have d1:w10.cell? ⟨b,1,none⟩=some (kS P):=F10.out.at_ 1;clear hl4 hx4)
                refine (rDo3 L10.out.swap P (by have:=HPL.out;omega) (by have:=HKS.out;omega)).mono ?_;rintro e5 w11 ⟨rfl,hl5,hx5⟩
                have L11:=hid (Lv.drop3 (Lv.drop3 hl5.swap));clear hl5 hx5 d1;go_wp2;go_roundw
                case rel=>exact ⟨k+1,by go_num,by omega,by show Lv _ _ _;rw [HM9.out,←HE.out];exact L11.out⟩
                case measure=>simp [intOf];omega
              · have q2:(kd == 2)=false:=by simpa using n2
                by_cases n3:kd=3
                · have q3:(kd == 3)=true:=by simpa using n3
                  have HE:=hid (HQ3.out n1 n2 n3);go_wp2_with (go_at_call 40;refine (gLink L9.out HG.out P T tm (by have:=HPL.out;omega) (by have:=HTL.out;omega) (by have:=HKS.out;omega)).mono ?_;rintro e4 w10 ⟨rfl,hl4,hx4⟩;have L10:=hid hl4;have F10:=hid (hl4.hasH (b:=b) (t:=89) (cs:=#[.int .i64 kd,kS P,kS T,.int .i64 lg,.int .i64 tm]) (by simp));have d1:w10.cell? ⟨b,1,none⟩=some (kS P):=F10.out.at_ 1;have d2:w10.cell? ⟨b,2,none⟩=some (kS T):=F10.out.at_ 2;have d4:w10.cell? ⟨b,4,none⟩=some (.int .i64 tm):=F10.out.at_ 4;clear hl4 hx4)
                  refine (rDo4 L10.out.swap P T tm (by have:=HPL.out;omega) (by have:=HTL.out;omega) (by have:=HKS.out;omega)).mono ?_;rintro e5 w11 ⟨rfl,hl5,hx5⟩
                  have L11:=hid (Lv.drop3 (Lv.drop3 hl5.swap));clear hl5 hx5 d1 d2 d4;go_wp2;go_roundw
                  case rel=>exact ⟨k+1,by go_num,by omega,by show Lv _ _ _;rw [HM9.out,←HE.out];exact L11.out⟩
                  case measure=>simp [intOf];omega
                · have q3:(kd == 3)=false:=by simpa using n3
                  have HE:=hid (HQ4.out n1 n2 n3);have L11:=hid (Lv.drop3 (Lv.drop3 L9.out));go_wp2;go_roundw
                  case rel=>exact ⟨k+1,by go_num,by omega,by show Lv _ _ _;rw [HM9.out,←HE.out];exact L11.out⟩
                  case measure=>simp [intOf];omega
          · skip
            by_cases n1:kd=1
            · have q1:(kd == 1)=true:=by simpa using n1
              have HE:=hid (HQ1.out n1);go_wp2_with (go_at_call 39;refine (gWrite L9.out HG.out P D tm (by have:=HPL.out;omega) (by have:=HDL.out;omega) (by have:=HKS.out;omega)).mono ?_;rintro e4 w10 ⟨rfl,hl4,hx4⟩;have L10:=hid hl4;have F10:=hid (hl4.hasH (b:=b) (t:=89) (cs:=#[.int .i64 kd,kS P,kS T,.int .i64 lg,.int .i64 tm]) (by simp));have d1:w10.cell? ⟨b,1,none⟩=some (kS P):=F10.out.at_ 1;have d4:w10.cell? ⟨b,4,none⟩=some (.int .i64 tm):=F10.out.at_ 4;have hcv10:=conv_fresh (B:=0) (w:=w10) (v:=.slice A6 D.length c6) (xs:=D) (hl4.hasS (by simp)) (Nat.lt_of_lt_of_le HG.out.pos hl4.bl.size);clear hl4 hx4)
              refine (rDo1 L10.out.swap P D tm (by have:=HPL.out;omega) (by have:=HDL.out;omega) (by have:=HKS.out;omega)).mono ?_;rintro e5 w11 ⟨rfl,hl5,hx5⟩
              have L11:=hid (Lv.drop3 (Lv.drop3 hl5.swap));clear hl5 hx5 d1 d4 hcv10;go_wp2;go_roundw
              case rel=>exact ⟨k+1,by go_num,by omega,by show Lv _ _ _;rw [HM9.out,←HE.out];exact L11.out⟩
              case measure=>simp [intOf];omega
            · have q1:(kd == 1)=false:=by simpa using n1
              by_cases n2:kd=2
              · have q2:(kd == 2)=true:=by simpa using n2
                have HE:=hid (HQ2.out n1 n2);go_wp2_with (go_at_call 37;refine (gMkdir L9.out HG.out P (by have:=HPL.out;omega) (by have:=HKS.out;omega)).mono ?_;rintro e4 w10 ⟨rfl,hl4,hx4⟩;have L10:=hid hl4;have F10:=hid (hl4.hasH (b:=b) (t:=89) (cs:=#[.int .i64 kd,kS P,kS T,.int .i64 lg,.int .i64 tm]) (by simp));have d1:w10.cell? ⟨b,1,none⟩=some (kS P):=F10.out.at_ 1;clear hl4 hx4)
                refine (rDo3 L10.out.swap P (by have:=HPL.out;omega) (by have:=HKS.out;omega)).mono ?_;rintro e5 w11 ⟨rfl,hl5,hx5⟩
                have L11:=hid (Lv.drop3 (Lv.drop3 hl5.swap));clear hl5 hx5 d1;go_wp2;go_roundw
                case rel=>exact ⟨k+1,by go_num,by omega,by show Lv _ _ _;rw [HM9.out,←HE.out];exact L11.out⟩
                case measure=>simp [intOf];omega
              · have q2:(kd == 2)=false:=by simpa using n2
                by_cases n3:kd=3
                · have q3:(kd == 3)=true:=by simpa using n3
                  have HE:=hid (HQ3.out n1 n2 n3);go_wp2_with (go_at_call 40;refine (gLink L9.out HG.out P T tm (by have:=HPL.out;omega) (by have:=HTL.out;omega) (by have:=HKS.out;omega)).mono ?_;rintro e4 w10 ⟨rfl,hl4,hx4⟩;have L10:=hid hl4;have F10:=hid (hl4.hasH (b:=b) (t:=89) (cs:=#[.int .i64 kd,kS P,kS T,.int .i64 lg,.int .i64 tm]) (by simp));have d1:w10.cell? ⟨b,1,none⟩=some (kS P):=F10.out.at_ 1;have d2:w10.cell? ⟨b,2,none⟩=some (kS T):=F10.out.at_ 2;have d4:w10.cell? ⟨b,4,none⟩=some (.int .i64 tm):=F10.out.at_ 4;clear hl4 hx4)
                  refine (rDo4 L10.out.swap P T tm (by have:=HPL.out;omega) (by have:=HTL.out;omega) (by have:=HKS.out;omega)).mono ?_;rintro e5 w11 ⟨rfl,hl5,hx5⟩
                  have L11:=hid (Lv.drop3 (Lv.drop3 hl5.swap));clear hl5 hx5 d1 d2 d4;go_wp2;go_roundw
                  case rel=>exact ⟨k+1,by go_num,by omega,by show Lv _ _ _;rw [HM9.out,←HE.out];exact L11.out⟩
                  case measure=>simp [intOf];omega
                · have q3:(kd == 3)=false:=by simpa using n3
                  have HE:=hid (HQ4.out n1 n2 n3);have L11:=hid (Lv.drop3 (Lv.drop3 L9.out));go_wp2;go_roundw
                  case rel=>exact ⟨k+1,by go_num,by omega,by show Lv _ _ _;rw [HM9.out,←HE.out];exact L11.out⟩
                  case measure=>simp [intOf];omega
          · skip
            by_cases n1:kd=1
            · have q1:(kd == 1)=true:=by simpa using n1
              have HE:=hid (HQ1.out n1);go_wp2_with (go_at_call 39;refine (gWrite L9.out HG.out P D tm (by have:=HPL.out;omega) (by have:=HDL.out;omega) (by have:=HKS.out;omega)).mono ?_;rintro e4 w10 ⟨rfl,hl4,hx4⟩;have L10:=hid hl4;have F10:=hid (hl4.hasH (b:=b) (t:=89) (cs:=#[.int .i64 kd,kS P,kS T,.int .i64 lg,.int .i64 tm]) (by simp));have d1:w10.cell? ⟨b,1,none⟩=some (kS P):=F10.out.at_ 1;have d4:w10.cell? ⟨b,4,none⟩=some (.int .i64 tm):=F10.out.at_ 4;have hcv10:=conv_fresh (B:=0) (w:=w10) (v:=.slice A6 D.length c6) (xs:=D) (hl4.hasS (by simp)) (Nat.lt_of_lt_of_le HG.out.pos hl4.bl.size);clear hl4 hx4)
              refine (rDo1 L10.out.swap P D tm (by have:=HPL.out;omega) (by have:=HDL.out;omega) (by have:=HKS.out;omega)).mono ?_;rintro e5 w11 ⟨rfl,hl5,hx5⟩
              have L11:=hid (Lv.drop3 (Lv.drop3 hl5.swap));clear hl5 hx5 d1 d4 hcv10;go_wp2;go_roundw
              case rel=>exact ⟨k+1,by go_num,by omega,by show Lv _ _ _;rw [HM9.out,←HE.out];exact L11.out⟩
              case measure=>simp [intOf];omega
            · have q1:(kd == 1)=false:=by simpa using n1
              by_cases n2:kd=2
              · have q2:(kd == 2)=true:=by simpa using n2
                have HE:=hid (HQ2.out n1 n2);go_wp2_with (go_at_call 37;refine (gMkdir L9.out HG.out P (by have:=HPL.out;omega) (by have:=HKS.out;omega)).mono ?_;rintro e4 w10 ⟨rfl,hl4,hx4⟩;have L10:=hid hl4;have F10:=hid (hl4.hasH (b:=b) (t:=89) (cs:=#[.int .i64 kd,kS P,kS T,.int .i64 lg,.int .i64 tm]) (by simp));have d1:w10.cell? ⟨b,1,none⟩=some (kS P):=F10.out.at_ 1;clear hl4 hx4)
                refine (rDo3 L10.out.swap P (by have:=HPL.out;omega) (by have:=HKS.out;omega)).mono ?_;rintro e5 w11 ⟨rfl,hl5,hx5⟩
                have L11:=hid (Lv.drop3 (Lv.drop3 hl5.swap));clear hl5 hx5 d1;go_wp2;go_roundw
                case rel=>exact ⟨k+1,by go_num,by omega,by show Lv _ _ _;rw [HM9.out,←HE.out];exact L11.out⟩
                case measure=>simp [intOf];omega
              · have q2:(kd == 2)=false:=by simpa using n2
                by_cases n3:kd=3
                · have q3:(kd == 3)=true:=by simpa using n3
                  have HE:=hid (HQ3.out n1 n2 n3);go_wp2_with (go_at_call 40;refine (gLink L9.out HG.out P T tm (by have:=HPL.out;omega) (by have:=HTL.out;omega) (by have:=HKS.out;omega)).mono ?_;rintro e4 w10 ⟨rfl,hl4,hx4⟩;have L10:=hid hl4;have F10:=hid (hl4.hasH (b:=b) (t:=89) (cs:=#[.int .i64 kd,kS P,kS T,.int .i64 lg,.int .i64 tm]) (by simp));have d1:w10.cell? ⟨b,1,none⟩=some (kS P):=F10.out.at_ 1;have d2:w10.cell? ⟨b,2,none⟩=some (kS T):=F10.out.at_ 2;have d4:w10.cell? ⟨b,4,none⟩=some (.int .i64 tm):=F10.out.at_ 4;clear hl4 hx4)
                  refine (rDo4 L10.out.swap P T tm (by have:=HPL.out;omega) (by have:=HTL.out;omega) (by have:=HKS.out;omega)).mono ?_;rintro e5 w11 ⟨rfl,hl5,hx5⟩
                  have L11:=hid (Lv.drop3 (Lv.drop3 hl5.swap));clear hl5 hx5 d1 d2 d4;go_wp2;go_roundw
                  case rel=>exact ⟨k+1,by go_num,by omega,by show Lv _ _ _;rw [HM9.out,←HE.out];exact L11.out⟩
                  case measure=>simp [intOf];omega
                · have q3:(kd == 3)=false:=by simpa using n3
                  have HE:=hid (HQ4.out n1 n2 n3);have L11:=hid (Lv.drop3 (Lv.drop3 L9.out));go_wp2;go_roundw
                  case rel=>exact ⟨k+1,by go_num,by omega,by show Lv _ _ _;rw [HM9.out,←HE.out];exact L11.out⟩
                  case measure=>simp [intOf];omega
  · obtain rfl:k=n:=by omega
    have HE:Hid (xs.take k=xs):=by show _=_;rw [List.take_of_length_le (by rw [HLEN.out];omega)]
    go_wp2;go_ret2;exact ⟨p,q,rfl,by have:=J1.out;rw [HE.out] at this;exact this⟩
end Go.Proofs.YtahkcemdbfjilaaGreatDoor
