/- Several texts in one. Conditions: those said at each. -/
import Derived.Test.YtahkcemdbfjilaaGreatDoorIt41
set_option linter.unusedSimpArgs false
set_option linter.unusedVariables false
set_option maxRecDepth 100000
namespace Go.Proofs.YtahkcemdbfjilaaGreatDoor
open Go.RowKit
set_option maxHeartbeats 4000000 in
theorem rlist_long (v:Value) (xs:By) (A:Option Addr) (cap bb off:Nat) (w:World) (h:Bytes w v xs A cap bb off) (hl:4096 < xs.length) :
 Calls Tryz.prog 104 #[v] w fun e w'=>e=.returned (.tuple #[.slice none 0 0,.int .i64 3])∧w=w':=by
 have e0:=h.form;rw [e0];obtain ⟨n,HN⟩:∃n,Hid (xs.length=n):=⟨_,rfl⟩;rw [HN.out] at hl ⊢;have h1:(4096:Int) < (n:Int):=by omega
 clear h e0 hl;go_enter Tryz.func104,Tryz.ntmps104
 go_wp2;go_ret2;exact ⟨rfl,rfl⟩
set_option maxHeartbeats 4000000 in
theorem rlist_any (v:Value) (xs:By) (A:Option Addr) (cap bb off:Nat) (w:World) (h:Bytes w v xs A cap bb off) (hp:0 < w.heap.size) (hl:xs.length≤4096) :
 Calls Tryz.prog 104 #[v] w fun e w'=>∃v',e=.returned (.tuple #[v',.int .i64 0])∧Dgs w.heap.size w' v' (hashes xs)∧Below w.heap.size w w':=by
 have CB:=hid (rblocks_any v xs A cap bb off w h hp (by omega))
 have e0:=h.form;obtain ⟨n,HN⟩:∃n,Hid (xs.length=n):=⟨_,rfl⟩;obtain ⟨c,HC⟩:∃c,Hid (cntL xs.length=c):=⟨_,rfl⟩;have hc32:=cntL_le xs.length hl;rw [HC.out] at hc32;rw [blocksL_ok xs hl,HC.out] at CB;have HBL:Hid ((blocksTo xs c).length=c):=blocksTo_len xs c;have HAT:Hid (∀k,k < c→(blocksTo xs c).getD k []=partL xs k):=fun k hk=>blocksTo_at xs c k hk
 have HV:Hid (hashes xs=listTo xs c):=by show _=_;rw [hashes,HC.out]
 have HPOS:=hid hp;have h1:¬(4096:Int) < (n:Int):=by rw [←HN.out];omega
 obtain ⟨bs,HBS⟩:∃bs,Hid (blocksTo xs c=bs):=⟨_,rfl⟩;rw [HBS.out] at CB HBL HAT;rw [HN.out] at e0;rw [e0] at CB ⊢;clear h e0 hl hp;go_enter Tryz.func104,Tryz.ntmps104
 go_wp2_with (go_at_call 163;refine CB.out.mono ?_;rintro e1 w1 ⟨v1,rfl,hl1,hb1⟩
              obtain ⟨A1,c1,hv1⟩:=hl1.form;rw [HBL.out] at hv1;subst hv1;have L1:=hid hl1;have B1:=hid hb1;clear hl1 hb1)
 go_loopw [5,6,7] (fun v5 v6 _ wr=>∃k:Nat,k≤c∧v6=.int .i64 (k:Int)∧Hid (Dgs w.heap.size wr v5 (listTo xs k))∧Hid (Below w.heap.size w wr)∧Hid (Bls w.heap.size wr (.slice A1 c c1) bs)) (fun _ v6 _ _=>c - (intOf v6).toNat)
 case atStart=>exact ⟨0,by omega,rfl,Dgs.nil _ _,B1.out,L1.out⟩
 case round =>
  obtain ⟨k,hk,rfl,J1,J2,J3⟩:=hrel;by_cases hlt:k < c
  · have hlt2:(k:Int) < (c:Int):=by omega
    have w1:IntKind.i64.wrap ((k:Int)+1)=(k:Int)+1:=i64in _ (by omega) (by omega)
    obtain ⟨g,c9,u,hv9,hcell,hfu⟩:=J3.out.at_ k (by rw [HBL.out];exact hlt)
    rw [HBL.out] at hv9;injection hv9 with hA1 hn1 hc1;subst hA1;subst hc1;clear hn1;rw [HAT.out k hlt] at hfu;obtain ⟨A2,c2,b2,hy2,_,_⟩:=hfu.bytes (Nat.lt_of_lt_of_le HPOS.out J2.out.size);have hyf:=hy2.form;obtain ⟨m,HM⟩:∃m,Hid ((partL xs k).length=m):=⟨_,rfl⟩;rw [HM.out] at hyf;subst hyf;have Y2:=hid hy2;obtain ⟨d,HD⟩:∃d,Hid (dg (partL xs k)=d):=⟨_,rfl⟩;have HDL:Hid (d.length=32):=by show _=_;rw [←HD.out];exact dg_len _
    have HNX:Hid (listTo xs (k+1)=listTo xs k++[d]):=by show _=_;rw [listTo_next,HD.out]
    have HPL:=hid (partL_le xs k);have HZ1:=hid (size_h d HDL.out);have HZ2:=hid (size_z d HDL.out);clear hfu hy2;go_wp2_with (first
     | (go_at_call 164;refine (rsum_any _ _ _ _ _ _ _ Y2.out (Nat.le_trans HPL.out (by omega))).mono ?_;rintro e3 w3 ⟨rfl,hb3⟩
        rw [HD.out];have B3:Hid (Below w.heap.size w w3):=J2.out.trans (hb3.mono J2.out.size);have D3:Hid (Dgs w.heap.size w3 u5 (listTo xs k)):=J1.out.kept hb3 (Nat.le_refl _);have L3:Hid (Bls w.heap.size w3 (.slice (some ⟨g,0,none⟩) c c1) bs):=J3.out.kept hb3;clear hb3)
     | (refine wpList_store_row rfl 81 (.tmp 7) (.tmp 23) rfl w3.heap.size (hvec d) rfl rfl 81 (hvec (List.replicate 32 0)) (Has.fresh w3 81 _) HZ1.out HZ2.out (hvec_one _) ?_
        generalize hG:World.setRow _ _ _=W1;obtain ⟨W0,hG0,X1,X2⟩:=box_h w3 d HDL.out;obtain rfl:W0=W1:=hG0.symm.trans hG;have BW:Hid (Below w.heap.size w W0):=B3.out.trans (X2.out.mono B3.out.size);have DW:Hid (Dgs w.heap.size W0 u5 (listTo xs k)):=D3.out.kept X2.out (Nat.le_refl _);have LW:Hid (Bls w.heap.size W0 (.slice (some ⟨g,0,none⟩) c c1) bs):=L3.out.kept X2.out;have AP:=hid (append_dg (W0.alloc (.cells (hvec d) 81)) w.heap.size u5 (listTo xs k) (DW.out.kept ((Below.refl _ _).alloc (Nat.le_refl _) _) (Nat.le_refl _)) d HDL.out ⟨W0.heap.size,0,none⟩ (fun j hj=>by rw [add_at,Nat.zero_add,(Has.fresh W0 81 (hvec d)).at_ j,hvec,List.getElem?_toArray];exact get_map (by rw [HDL.out];exact hj)) (by rw [listTo_len];omega) (by have:=BW.out.size;simp;omega) 56)
        obtain ⟨v5,w5,hr5,hd5,hg5⟩:=AP.out;have R5:=hid hr5;have D5:Hid (Dgs w.heap.size w5 v5 (listTo xs (k+1))):=by show Dgs _ _ _ _;rw [HNX.out];exact hd5
        have B5:Hid (Below w.heap.size w w5):=(BW.out.alloc BW.out.size (.cells (hvec d) 81)).grown hg5 (by have:=BW.out.size;simp;omega) (fun g hg=>(DW.out.own.lt g hg).1)
        have L5:Hid (Bls w.heap.size w5 (.slice (some ⟨g,0,none⟩) c c1) bs):=(LW.out.kept ((Below.refl _ W0).alloc (Nat.le_refl _) (.cells (hvec d) 81))).grown (DW.out.kept ((Below.refl _ W0).alloc (Nat.le_refl _) (.cells (hvec d) 81)) (Nat.le_refl _)).own (by decide) (by decide) hg5
        clear hG hG0 AP hr5 hd5 hg5)
     | (refine wpList_load_row rfl 81 (.tmp 7) rfl w3.heap.size rfl 81 (hvec d) (0,0) _ X1.out Tryz.underlying81 rfl HZ1.out ?_)
     | (refine wpList_build_dg (by rfl) (.tmp 25) rfl d rfl HDL.out ?_)
     | (refine wpList_append_run rfl (.tmp 24) (.tmp 26) 56 56 rfl ⟨_,_,R5.out,?_⟩))
    go_roundw
    case rel=>exact ⟨k+1,by omega,by go_num,D5.out,B5.out,L5.out⟩
    case measure=>simp [intOf];omega
  · obtain rfl:k=c:=by omega
    go_wp2;go_ret2;exact ⟨_,rfl,by rw [HV.out];exact J1.out,J2.out⟩
end Go.Proofs.YtahkcemdbfjilaaGreatDoor
namespace Go.Proofs.YtahkcemdbfjilaaGreatDoor
open Go.RowKit Go.Maps
def RItemP (w:World) (p:By) (n:Nd) (e:Ending) (w':World):Prop :=
 if n.kind=1∧4096 < n.data.length then e=.returned (.tuple #[.agg recZ,.int .i64 3])∧Below w.heap.size w w'
 else ∃bv,e=.returned (.tuple #[.agg (recN p n bv),.int .i64 0])∧Dgs w.heap.size w' bv (hasN n)∧Below w.heap.size w w'
set_option maxHeartbeats 8000000 in
theorem ritem17_any (p:By) (n:Nd) (w:World) (hp:0 < w.heap.size) (hd:n.data.length≤100000000) :
 Calls Tryz.prog 57 #[kS p,nodeV n] w fun e w'=>RItemP w p n e w':=by
 obtain ⟨k,d,x,t⟩:=n;show Calls Tryz.prog 57 #[kS p,.agg #[.int .i64 k,kS d,kS x,.int .i64 t]] w _
 dsimp only at hd;obtain ⟨w1,hw1⟩:∃w1,w.alloc (.cells #[.int .i64 k,kS d,kS x,.int .i64 t] 71)=w1:=⟨_,rfl⟩;have b1:Below w.heap.size w w1:=hw1▸(Below.refl _ _).alloc (Nat.le_refl _) _;have s1:w1.heap.size=w.heap.size+1:=by rw [←hw1];simp
 have X1:Has w1 w.heap.size 71 #[.int .i64 k,kS d,kS x,.int .i64 t]:=by rw [←hw1];exact Has.fresh _ _ _
 obtain ⟨w2,hw2⟩:∃w2,w1.alloc (.cells #[.string ⟨#[]⟩,.int .i64 0,.bool false,.int .i64 0,.int .i64 0,.int .i64 0,.int .u32 0,.int .u32 0,.int .u32 0,.int .u32 0,.int .u32 0,.int .u32 0,.int .u32 0,.int .u32 0,.int .u32 0,.int .u32 0,.int .u32 0,.int .u32 0,.int .u32 0,.int .u32 0,.int .u32 0,.int .u32 0,.int .i64 0,.slice none 0 0,.string ⟨#[]⟩,.int .i64 0,.int .i64 0] 58)=w2:=⟨_,rfl⟩;have b2:Below w.heap.size w w2:=hw2▸b1.alloc b1.size _;have s2:w2.heap.size=w.heap.size+2:=by rw [←hw2];simp [s1]
 have Y2:Has w2 (w.heap.size+1) 58 #[.string ⟨#[]⟩,.int .i64 0,.bool false,.int .i64 0,.int .i64 0,.int .i64 0,.int .u32 0,.int .u32 0,.int .u32 0,.int .u32 0,.int .u32 0,.int .u32 0,.int .u32 0,.int .u32 0,.int .u32 0,.int .u32 0,.int .u32 0,.int .u32 0,.int .u32 0,.int .u32 0,.int .u32 0,.int .u32 0,.int .i64 0,.slice none 0 0,.string ⟨#[]⟩,.int .i64 0,.int .i64 0]:=by rw [←hw2,←s1];exact Has.fresh _ _ _
 have X2:Has w2 w.heap.size 71 #[.int .i64 k,kS d,kS x,.int .i64 t]:=by rw [←hw2];exact X1.more _
 obtain ⟨w3,hw3⟩:∃w3,w2.alloc (.cells #[.string ⟨#[]⟩,.int .i64 0,.bool false,.int .i64 0,.int .i64 0,.int .i64 0,.int .u32 0,.int .u32 0,.int .u32 0,.int .u32 0,.int .u32 0,.int .u32 0,.int .u32 0,.int .u32 0,.int .u32 0,.int .u32 0,.int .u32 0,.int .u32 0,.int .u32 0,.int .u32 0,.int .u32 0,.int .u32 0,.int .i64 0,.slice none 0 0,.string ⟨#[]⟩,.int .i64 0,.int .i64 0] 58)=w3:=⟨_,rfl⟩;have b3:Below w.heap.size w w3:=hw3▸b2.alloc b2.size _;have s3:w3.heap.size=w.heap.size+3:=by rw [←hw3];simp [s2]
 have Z3:Hid (Has w3 (w.heap.size+2) 58 #[.string ⟨#[]⟩,.int .i64 0,.bool false,.int .i64 0,.int .i64 0,.int .i64 0,.int .u32 0,.int .u32 0,.int .u32 0,.int .u32 0,.int .u32 0,.int .u32 0,.int .u32 0,.int .u32 0,.int .u32 0,.int .u32 0,.int .u32 0,.int .u32 0,.int .u32 0,.int .u32 0,.int .u32 0,.int .u32 0,.int .i64 0,.slice none 0 0,.string ⟨#[]⟩,.int .i64 0,.int .i64 0]):=by rw [←hw3,←s2];exact Has.fresh _ _ _
 have Y3:Has w3 (w.heap.size+1) 58 #[.string ⟨#[]⟩,.int .i64 0,.bool false,.int .i64 0,.int .i64 0,.int .i64 0,.int .u32 0,.int .u32 0,.int .u32 0,.int .u32 0,.int .u32 0,.int .u32 0,.int .u32 0,.int .u32 0,.int .u32 0,.int .u32 0,.int .u32 0,.int .u32 0,.int .u32 0,.int .u32 0,.int .u32 0,.int .u32 0,.int .i64 0,.slice none 0 0,.string ⟨#[]⟩,.int .i64 0,.int .i64 0]:=by rw [←hw3];exact Y2.more _
 have X3:Has w3 w.heap.size 71 #[.int .i64 k,kS d,kS x,.int .i64 t]:=by rw [←hw3];exact X2.more _
 obtain ⟨w4,hw4⟩:∃w4,w3.setRow (w.heap.size+2) (recC p k 0 t 0 (.slice none 0 0) x)=w4:=⟨_,rfl⟩;have b4:Hid (Below w.heap.size w w4):=by rw [←hw4];exact b3.rowK (by omega) _
 have Z4:Hid (Has w4 (w.heap.size+2) 58 (recC p k 0 t 0 (.slice none 0 0) x)):=by rw [←hw4];exact Z3.out.row
 have Y4:Hid (Has w4 (w.heap.size+1) 58 #[.string ⟨#[]⟩,.int .i64 0,.bool false,.int .i64 0,.int .i64 0,.int .i64 0,.int .u32 0,.int .u32 0,.int .u32 0,.int .u32 0,.int .u32 0,.int .u32 0,.int .u32 0,.int .u32 0,.int .u32 0,.int .u32 0,.int .u32 0,.int .u32 0,.int .u32 0,.int .u32 0,.int .u32 0,.int .u32 0,.int .i64 0,.slice none 0 0,.string ⟨#[]⟩,.int .i64 0,.int .i64 0]):=by rw [←hw4];exact Y3.rowOther (by omega)
 have X4:Hid (Has w4 w.heap.size 71 #[.int .i64 k,kS d,kS x,.int .i64 t]):=by rw [←hw4];exact X3.rowOther (by omega)
 have s4:Hid (w4.heap.size=w.heap.size+3):=by show _=_;rw [←hw4];simpa using s3
 have n0:=X2.at_ 0;have n2:=X2.at_ 2;have n3:=X2.at_ 3;have n30:=X3.at_ 0;have n32:=X3.at_ 2;have n33:=X3.at_ 3;have m0:=X4.out.at_ 0;have m1:=X4.out.at_ 1;clear b1 b2 b3 X1 X2 X3 Y2 Y3 s3;by_cases h1:k=1
 · subst h1
   have q:((1:Int) == 1)=true:=rfl;have hcv:=conv_string (ba d) w4;obtain ⟨cp,hcp⟩:∃cp,grownCap w4 (ba d).size 0 5=cp:=⟨_,rfl⟩;obtain ⟨w8,hw8⟩:∃w8,Lib.bytesWorld w4 5 (ba d)=w8:=⟨_,rfl⟩;have HBY:=conv_bytes (ba d) w4;have b48:Below w4.heap.size w4 w8:=hw8▸conv_below (ba d) w4;rw [hcp,hw8] at HBY hcv;have HBY2:Hid (Bytes w8 (.slice (some ⟨w4.heap.size,0,none⟩) (ba d).size cp) d (some ⟨w4.heap.size,0,none⟩) cp w4.heap.size 0):=HBY;have b8:Hid (Below w.heap.size w w8):=b4.out.trans (b48.mono b4.out.size);have Z8:Hid (Has w8 (w.heap.size+2) 58 (recC p 1 0 t 0 (.slice none 0 0) x)):=Z4.out.kept b48 Z4.out.inside;have Y8:Hid (Has w8 (w.heap.size+1) 58 #[.string ⟨#[]⟩,.int .i64 0,.bool false,.int .i64 0,.int .i64 0,.int .i64 0,.int .u32 0,.int .u32 0,.int .u32 0,.int .u32 0,.int .u32 0,.int .u32 0,.int .u32 0,.int .u32 0,.int .u32 0,.int .u32 0,.int .u32 0,.int .u32 0,.int .u32 0,.int .u32 0,.int .u32 0,.int .u32 0,.int .i64 0,.slice none 0 0,.string ⟨#[]⟩,.int .i64 0,.int .i64 0]):=Y4.out.kept b48 Y4.out.inside;have X8:Hid (Has w8 w.heap.size 71 #[.int .i64 1,kS d,kS x,.int .i64 t]):=X4.out.kept b48 X4.out.inside;have HP8:Hid (0 < w8.heap.size):=Nat.lt_of_lt_of_le hp b8.out.size;have HS4:=s4;clear hw8 hcp HBY b48 hp s4;by_cases hl:4096 < d.length
   · suffices key:Calls Tryz.prog 57 #[kS p,.agg #[.int .i64 1,kS d,kS x,.int .i64 t]] w (fun e w'=>e=.returned (.tuple #[.agg recZ,.int .i64 3])∧Below w.heap.size w w') from key.mono fun e w' h=>by unfold RItemP;rw [if_pos ⟨rfl,hl⟩];exact h
     have CL:=hid (rlist_long _ d _ cp w4.heap.size 0 w8 HBY2.out hl);obtain ⟨w9,hw9⟩:∃w9,w8.setRow (w.heap.size+1) recZ=w9:=⟨_,rfl⟩;have b9:Hid (Below w.heap.size w w9):=by rw [←hw9];exact b8.out.rowK (by omega) _
     have Y9:Hid (Has w9 (w.heap.size+1) 58 recZ):=by rw [←hw9];exact Y8.out.row
     clear hl hd;go_enter Tryz.func57,Tryz.ntmps57
     go_wp2_with (first
      | (refine wpList_store_row rfl 58 (.tmp 6) (.tmp 16) rfl (w.heap.size+2) (recC p 1 0 t 0 (.slice none 0 0) x) rfl rfl 58 _ Z3.out (by kernel_rfl) rfl (by simp [recC,Value.oneCell']) ?_;rw [hw4]))
     refine CL.out.mono ?_;rintro e9 wx ⟨rfl,rfl⟩;go_wp2_with (first
      | (refine wpList_store_row rfl 58 (.tmp 4) (.tmp 29) rfl (w.heap.size+1) recZ rfl rfl 58 _ Y8.out (by kernel_rfl) rfl recZ_all ?_;rw [hw9]))
     refine bodyPost_ret (results_rec rfl _ _ (w.heap.size+1) recZ rfl Y9.out rfl) rfl ?_;exact ⟨rfl,b9.out⟩
   · suffices key:Calls Tryz.prog 57 #[kS p,.agg #[.int .i64 1,kS d,kS x,.int .i64 t]] w (fun e w'=>∃bv,e=.returned (.tuple #[.agg (recN p ⟨1,d,x,t⟩ bv),.int .i64 0])∧Dgs w.heap.size w' bv (hasN ⟨1,d,x,t⟩)∧Below w.heap.size w w') from key.mono fun e w' h=>by unfold RItemP;rw [if_neg (fun h=>hl h.2)];exact h
     have hle:d.length≤4096:=by omega
     have CL:=hid (rlist_any _ d _ cp w4.heap.size 0 w8 HBY2.out HP8.out hle);have hsz:(((ba d).size:Nat):Int) < 9223372036854775808:=by rw [ba_size];omega
     obtain ⟨bs,HBS⟩:∃bs:Nat,Hid (sizeI (((ba d).size:Nat):Int)=bs):=⟨_,rfl⟩;have CS:Hid (∀W,Calls Tryz.prog 105 #[.int .i64 (((ba d).size:Nat):Int)] W fun e w'=>e=.returned (.int .i64 (bs:Int))∧Below W.heap.size W w'):=fun W=>by
      have:=rsize_any (((ba d).size:Nat):Int) W;rw [HBS.out] at this;exact this
     have HRN:Hid (∀v,recN p ⟨1,d,x,t⟩ v=recC p 1 (((ba d).size:Nat):Int) t (bs:Int) v x):=by
      intro v;show recC p 1 (sizN _) t (bsN _) v x=_
      have e1:sizN ⟨1,d,x,t⟩=(((ba d).size:Nat):Int):=by unfold sizN;rw [if_pos rfl,ba_size]
      have e2:bsN ⟨1,d,x,t⟩=(bs:Int):=by unfold bsN;rw [if_pos rfl,←HBS.out,ba_size]
      rw [e1,e2]
     have HHN:Hid (hasN ⟨1,d,x,t⟩=hashes d):=by show _=_;unfold hasN;rw [if_pos rfl]
     clear hl hd hle;go_enter Tryz.func57,Tryz.ntmps57
     go_wp2_with (first
      | (refine wpList_store_row rfl 58 (.tmp 6) (.tmp 16) rfl (w.heap.size+2) (recC p 1 0 t 0 (.slice none 0 0) x) rfl rfl 58 _ Z3.out (by kernel_rfl) rfl (by simp [recC,Value.oneCell']) ?_;rw [hw4]))
     refine CL.out.mono ?_;rintro e9 w9 ⟨bv,rfl,hD,hb9⟩;obtain ⟨A9,c9,rfl⟩:=hD.form;obtain ⟨hn,HHL⟩:∃hn,Hid ((hashes d).length=hn):=⟨_,rfl⟩;rw [HHL.out] at hD ⊢;have b9:Hid (Below w.heap.size w w9):=b8.out.trans (hb9.mono b8.out.size);have Z9:Hid (Has w9 (w.heap.size+2) 58 (recC p 1 0 t 0 (.slice none 0 0) x)):=Z8.out.kept hb9 Z8.out.inside;have Y9:Hid (Has w9 (w.heap.size+1) 58 #[.string ⟨#[]⟩,.int .i64 0,.bool false,.int .i64 0,.int .i64 0,.int .i64 0,.int .u32 0,.int .u32 0,.int .u32 0,.int .u32 0,.int .u32 0,.int .u32 0,.int .u32 0,.int .u32 0,.int .u32 0,.int .u32 0,.int .u32 0,.int .u32 0,.int .u32 0,.int .u32 0,.int .u32 0,.int .u32 0,.int .i64 0,.slice none 0 0,.string ⟨#[]⟩,.int .i64 0,.int .i64 0]):=Y8.out.kept hb9 Y8.out.inside;have X9:Hid (Has w9 w.heap.size 71 #[.int .i64 1,kS d,kS x,.int .i64 t]):=X8.out.kept hb9 X8.out.inside;have D9:Hid (Dgs w8.heap.size w9 (.slice A9 hn c9) (hashes d)):=hD;have hlow:Hid (∀b,(Value.slice A9 hn c9).ownBlock=some b→w.heap.size+2 < b):=fun b hb=>by
      have h1:=(D9.out.own.lt b hb).1;have h2:=Z8.out.inside;omega
     clear hD hb9;have c9c:w9.cell? ⟨w.heap.size+2,23,none⟩=some (.slice none 0 0):=Z9.out.at_ 23;have c9f:=Z9.out.free 23;obtain ⟨w10,hw10⟩:∃w10,w9.setCell ⟨w.heap.size+2,23,none⟩ (.slice A9 hn c9)=w10:=⟨_,rfl⟩;have b10:Hid (Below w.heap.size w w10):=by rw [←hw10];exact b9.out.setCell (p:=⟨w.heap.size+2,23,none⟩) (by show _≤w.heap.size+2;omega) _
     have Z10:Hid (Has w10 (w.heap.size+2) 58 (recC p 1 0 t 0 (.slice A9 hn c9) x)):=by rw [←hw10];exact Z9.out.put 23 _
     have Y10:Hid (Has w10 (w.heap.size+1) 58 #[.string ⟨#[]⟩,.int .i64 0,.bool false,.int .i64 0,.int .i64 0,.int .i64 0,.int .u32 0,.int .u32 0,.int .u32 0,.int .u32 0,.int .u32 0,.int .u32 0,.int .u32 0,.int .u32 0,.int .u32 0,.int .u32 0,.int .u32 0,.int .u32 0,.int .u32 0,.int .u32 0,.int .u32 0,.int .u32 0,.int .i64 0,.slice none 0 0,.string ⟨#[]⟩,.int .i64 0,.int .i64 0]):=by rw [←hw10];exact Y9.out.other (by show _≠w.heap.size+2;omega) _
     have X10:Hid (Has w10 w.heap.size 71 #[.int .i64 1,kS d,kS x,.int .i64 t]):=by rw [←hw10];exact X9.out.other (by show _≠w.heap.size+2;omega) _
     have D10:Hid (Dgs w8.heap.size w10 (.slice A9 hn c9) (hashes d)):=⟨row_of D9.out.own fun b hb=>by rw [←hw10];exact Below.heap_setCell w9 ⟨w.heap.size+2,23,none⟩ _ b (by have:=hlow.out b hb;show b≠w.heap.size+2;omega),D9.out.len⟩
     have p10:w10.cell? ⟨w.heap.size,1,none⟩=some (kS d):=X10.out.at_ 1;have c10:w10.cell? ⟨w.heap.size+2,3,none⟩=some (.int .i64 0):=Z10.out.at_ 3;have f10:=Z10.out.free 3;obtain ⟨w11,hw11⟩:∃w11,w10.setCell ⟨w.heap.size+2,3,none⟩ (.int .i64 (((ba d).size:Nat):Int))=w11:=⟨_,rfl⟩;have b11:Hid (Below w.heap.size w w11):=by rw [←hw11];exact b10.out.setCell (p:=⟨w.heap.size+2,3,none⟩) (by show _≤w.heap.size+2;omega) _
     have Z11:Hid (Has w11 (w.heap.size+2) 58 (recC p 1 (((ba d).size:Nat):Int) t 0 (.slice A9 hn c9) x)):=by rw [←hw11];exact Z10.out.put 3 _
     have Y11:Hid (Has w11 (w.heap.size+1) 58 #[.string ⟨#[]⟩,.int .i64 0,.bool false,.int .i64 0,.int .i64 0,.int .i64 0,.int .u32 0,.int .u32 0,.int .u32 0,.int .u32 0,.int .u32 0,.int .u32 0,.int .u32 0,.int .u32 0,.int .u32 0,.int .u32 0,.int .u32 0,.int .u32 0,.int .u32 0,.int .u32 0,.int .u32 0,.int .u32 0,.int .i64 0,.slice none 0 0,.string ⟨#[]⟩,.int .i64 0,.int .i64 0]):=by rw [←hw11];exact Y10.out.other (by show _≠w.heap.size+2;omega) _
     have D11:Hid (Dgs w8.heap.size w11 (.slice A9 hn c9) (hashes d)):=⟨row_of D10.out.own fun b hb=>by rw [←hw11];exact Below.heap_setCell w10 ⟨w.heap.size+2,3,none⟩ _ b (by have:=hlow.out b hb;show b≠w.heap.size+2;omega),D10.out.len⟩
     have c11:w11.cell? ⟨w.heap.size+2,3,none⟩=some (.int .i64 (((ba d).size:Nat):Int)):=Z11.out.at_ 3;go_wp2_with fail
     try rw [hw10]
     try rw [hw11]
     refine (CS.out _).mono ?_;rintro e12 w12 ⟨rfl,hb12⟩;have b12:Hid (Below w.heap.size w w12):=b11.out.trans (hb12.mono b11.out.size);have Z12:Hid (Has w12 (w.heap.size+2) 58 (recC p 1 (((ba d).size:Nat):Int) t 0 (.slice A9 hn c9) x)):=Z11.out.kept hb12 Z11.out.inside;have Y12:Hid (Has w12 (w.heap.size+1) 58 #[.string ⟨#[]⟩,.int .i64 0,.bool false,.int .i64 0,.int .i64 0,.int .i64 0,.int .u32 0,.int .u32 0,.int .u32 0,.int .u32 0,.int .u32 0,.int .u32 0,.int .u32 0,.int .u32 0,.int .u32 0,.int .u32 0,.int .u32 0,.int .u32 0,.int .u32 0,.int .u32 0,.int .u32 0,.int .u32 0,.int .i64 0,.slice none 0 0,.string ⟨#[]⟩,.int .i64 0,.int .i64 0]):=Y11.out.kept hb12 Y11.out.inside;have D12:Hid (Dgs w8.heap.size w12 (.slice A9 hn c9) (hashes d)):=D11.out.kq (Kq.of_below hb12);have c12:w12.cell? ⟨w.heap.size+2,22,none⟩=some (.int .i64 0):=Z12.out.at_ 22;have f12:=Z12.out.free 22;obtain ⟨w13,hw13⟩:∃w13,w12.setCell ⟨w.heap.size+2,22,none⟩ (.int .i64 (bs:Int))=w13:=⟨_,rfl⟩;have b13:Hid (Below w.heap.size w w13):=by rw [←hw13];exact b12.out.setCell (p:=⟨w.heap.size+2,22,none⟩) (by show _≤w.heap.size+2;omega) _
     have Z13:Hid (Has w13 (w.heap.size+2) 58 (recC p 1 (((ba d).size:Nat):Int) t (bs:Int) (.slice A9 hn c9) x)):=by rw [←hw13];exact Z12.out.put 22 _
     have Y13:Hid (Has w13 (w.heap.size+1) 58 #[.string ⟨#[]⟩,.int .i64 0,.bool false,.int .i64 0,.int .i64 0,.int .i64 0,.int .u32 0,.int .u32 0,.int .u32 0,.int .u32 0,.int .u32 0,.int .u32 0,.int .u32 0,.int .u32 0,.int .u32 0,.int .u32 0,.int .u32 0,.int .u32 0,.int .u32 0,.int .u32 0,.int .u32 0,.int .u32 0,.int .i64 0,.slice none 0 0,.string ⟨#[]⟩,.int .i64 0,.int .i64 0]):=by rw [←hw13];exact Y12.out.other (by show _≠w.heap.size+2;omega) _
     have D13:Hid (Dgs w8.heap.size w13 (.slice A9 hn c9) (hashes d)):=⟨row_of D12.out.own fun b hb=>by rw [←hw13];exact Below.heap_setCell w12 ⟨w.heap.size+2,22,none⟩ _ b (by have:=hlow.out b hb;show b≠w.heap.size+2;omega),D12.out.len⟩
     obtain ⟨w14,hw14⟩:∃w14,w13.setRow (w.heap.size+1) (recC p 1 (((ba d).size:Nat):Int) t (bs:Int) (.slice A9 hn c9) x)=w14:=⟨_,rfl⟩;have b14:Hid (Below w.heap.size w w14):=by rw [←hw14];exact b13.out.rowK (by omega) _
     have Y14:Hid (Has w14 (w.heap.size+1) 58 (recC p 1 (((ba d).size:Nat):Int) t (bs:Int) (.slice A9 hn c9) x)):=by rw [←hw14];exact Y13.out.row
     have D14:Hid (Dgs w.heap.size w14 (.slice A9 hn c9) (hashes d)):=Dgs.mono ⟨row_of D13.out.own fun b hb=>by rw [←hw14];exact setRow_other w13 (w.heap.size+1) b _ (by have:=hlow.out b hb;omega),D13.out.len⟩ b8.out.size
     clear hb12;go_wp2_with (first
      | (refine wpList_load_g rfl 58 (.tmp 6) rfl (w.heap.size+2) 0 rfl (recC p 1 (((ba d).size:Nat):Int) t (bs:Int) (.slice A9 hn c9) x) (load_rec Z13.out rfl) ?_)
      | (refine wpList_store_row rfl 58 (.tmp 4) (.tmp 40) rfl (w.heap.size+1) (recC p 1 (((ba d).size:Nat):Int) t (bs:Int) (.slice A9 hn c9) x) rfl rfl 58 _ Y13.out (by kernel_rfl) rfl (by simp [recC,Value.oneCell']) ?_;rw [hw14]))
     refine bodyPost_ret (results_rec rfl _ _ (w.heap.size+1) (recC p 1 (((ba d).size:Nat):Int) t (bs:Int) (.slice A9 hn c9) x) rfl Y14.out rfl) rfl ?_;exact ⟨.slice A9 hn c9,(by rw [HRN.out];rfl),(by rw [HHN.out];exact D14.out),b14.out⟩
 · have q:(k == 1)=false:=by simpa using h1
   suffices key:Calls Tryz.prog 57 #[kS p,.agg #[.int .i64 k,kS d,kS x,.int .i64 t]] w (fun e w'=>∃bv,e=.returned (.tuple #[.agg (recN p ⟨k,d,x,t⟩ bv),.int .i64 0])∧Dgs w.heap.size w' bv (hasN ⟨k,d,x,t⟩)∧Below w.heap.size w w') from key.mono fun e w' h=>by unfold RItemP;rw [if_neg (fun h=>h1 h.1)];exact h
   have HR:Hid (recN p ⟨k,d,x,t⟩ (.slice none 0 0)=recC p k 0 t 0 (.slice none 0 0) x):=by show _=_;unfold recN sizN bsN;simp only [if_neg h1]
   have HH:Hid (hasN ⟨k,d,x,t⟩=[]):=by show _=_;unfold hasN;rw [if_neg h1]
   obtain ⟨w5,hw5⟩:∃w5,w4.setRow (w.heap.size+1) (recC p k 0 t 0 (.slice none 0 0) x)=w5:=⟨_,rfl⟩;have b5:Hid (Below w.heap.size w w5):=by rw [←hw5];exact b4.out.rowK (by omega) _
   have Y5:Hid (Has w5 (w.heap.size+1) 58 (recC p k 0 t 0 (.slice none 0 0) x)):=by rw [←hw5];exact Y4.out.row
   clear h1 hd hp;go_enter Tryz.func57,Tryz.ntmps57
   go_wp2_with (first
    | (refine wpList_store_row rfl 58 (.tmp 6) (.tmp 16) rfl (w.heap.size+2) (recC p k 0 t 0 (.slice none 0 0) x) rfl rfl 58 _ Z3.out (by kernel_rfl) rfl (by simp [recC,Value.oneCell']) ?_;rw [hw4])
    | (refine wpList_load_g rfl 58 (.tmp 6) rfl (w.heap.size+2) 0 rfl (recC p k 0 t 0 (.slice none 0 0) x) (load_rec Z4.out rfl) ?_)
    | (refine wpList_store_row rfl 58 (.tmp 4) (.tmp 40) rfl (w.heap.size+1) (recC p k 0 t 0 (.slice none 0 0) x) rfl rfl 58 _ Y4.out (by kernel_rfl) rfl (by simp [recC,Value.oneCell']) ?_;rw [hw5]))
   refine bodyPost_ret (results_rec rfl _ _ (w.heap.size+1) (recC p k 0 t 0 (.slice none 0 0) x) rfl Y5.out rfl) rfl ?_;exact ⟨.slice none 0 0,(by rw [HR.out];rfl),(by rw [HH.out];exact Dgs.nil _ _),b5.out⟩
end Go.Proofs.YtahkcemdbfjilaaGreatDoor
namespace Go.Proofs.YtahkcemdbfjilaaGreatDoor
open Go.RowKit Go.Maps
set_option maxHeartbeats 8000000 in
theorem rone_any {own:Nat→Prop} {w:World} {r:Nat} {M:Mo} (h:RDk own w r M) (hDG:DG M.now) (hp0:0 < w.heap.size) (root q:By) (hr:root.length≤1000) (hq:q.length≤1000) :
 Calls Tryz.prog 21 #[.pointer (some ⟨r,0,none⟩),kS root,kS q] w fun e w'=>ItemP w q (itemM M.now root q) e w':=by
 obtain ⟨at_,HAT⟩:∃at_,Hid (root++47 :: q=at_):=⟨_,rfl⟩;have zr:=ba_size root;have zq:=ba_size q;have a1:ba root++(⟨#[47]⟩:ByteArray)=ba (root++[47]):=Glob.ba_app root [47];have a2:ba (root++[47])++ba q=ba at_:=by
  have e:=Glob.ba_app (root++[47]) q;rw [List.append_assoc] at e;have e2:root++([47]++q)=at_:=HAT.out;rw [e2] at e;exact e
 have z2:(ba (root++[47])).size=root.length+1:=by rw [ba_size,List.length_append];rfl
 have hal:at_.length≤4000:=by rw [←HAT.out,List.length_append,List.length_cons];omega
 have b1:Below w.heap.size w (w.alloc (.cells recZ 58)):=(Below.refl _ _).alloc (Nat.le_refl _) _;have F1:Hid (Has (w.alloc (.cells recZ 58)) w.heap.size 58 recZ):=Has.fresh _ _ _;have B1:=hid b1;have CM1:Hid (∀W,Calls Tryz.prog 62 #[kS root] W fun e w'=>e=.returned (.bool (mayB root))∧Below W.heap.size W w'):=fun W=>by
  have:=Rf.rmay_any (ba root) W (by rw [ba_size];omega)
  rw [tl_ba] at this;exact this
 have CM2:Hid (∀W,Calls Tryz.prog 62 #[kS q] W fun e w'=>e=.returned (.bool (mayB q))∧Below W.heap.size W w'):=fun W=>by
  have:=Rf.rmay_any (ba q) W (by rw [ba_size];omega)
  rw [tl_ba] at this;exact this
 have H:=hid h;have HG:=hid h.good;have HDG:=hid hDG;have HAL:=hid hal;have HP0:=hid hp0;obtain ⟨v,HR⟩:∃v,Hid (itemM M.now root q=v):=⟨_,rfl⟩;have hrr:=HR.out;unfold itemM at hrr;rw [HAT.out] at hrr;rw [HR.out];have hroom:M.room≤1048576:=by obtain ⟨_,_,_,_,_,_,h'⟩:=h;exact h'.r1
 clear h hDG hal hp0 b1
 cases hm1:mayB root with
 | false =>
  have hm:mayB at_=false:=by
   cases e:mayB at_ with
   | false=>rfl
   | true=>rw [←HAT.out] at e;rw [may_front e] at hm1;cases hm1
  rw [hm] at hrr;rw [hm1] at CM1;have hr1:v=(10,n0):=by rw [←hrr];rfl
  subst hr1;clear hrr hm hm1 hroom;go_enter Tryz.func21,Tryz.ntmps21
  go_wp2_with fail
  refine (CM1.out _).mono ?_;rintro e1 w1 ⟨rfl,hb1⟩;have F2:=hid (F1.out.kept hb1 F1.out.inside);have B2:=hid (B1.out.trans (hb1.mono B1.out.size));clear hb1;go_wp2_with (refine wpList_store_row rfl 58 (.tmp 6) (.tmp 18) rfl w.heap.size recZ rfl rfl 58 _ F2.out (by kernel_rfl) rfl recZ_all ?_)
  refine bodyPost_ret (results_rec rfl _ _ w.heap.size recZ rfl F2.out.row rfl) rfl ?_;exact ⟨recZ,rfl,rfl,recZ_all,fun h=>absurd h (by decide),fun _=>rfl,B2.out.rowK (Nat.le_refl _) _⟩
 | true =>
  rw [hm1] at CM1
  cases hm2:mayB q with
  | false =>
   have hm:mayB at_=false:=by
    cases e:mayB at_ with
    | false=>rfl
    | true=>rw [←HAT.out] at e;rw [may_tail e] at hm2;cases hm2
   rw [hm] at hrr;rw [hm2] at CM2;have hr1:v=(10,n0):=by rw [←hrr];rfl
   subst hr1;clear hrr hm hm1 hm2 hroom;go_enter Tryz.func21,Tryz.ntmps21
   go_wp2_with fail
   refine (CM1.out _).mono ?_;rintro e1 w1 ⟨rfl,hb1⟩;go_wp2_with fail
   refine (CM2.out _).mono ?_;rintro e2 w2 ⟨rfl,hb2⟩;have F2:=hid ((F1.out.kept hb1 F1.out.inside).kept hb2 (F1.out.kept hb1 F1.out.inside).inside);have B2:=hid ((B1.out.trans (hb1.mono B1.out.size)).trans (hb2.mono (B1.out.trans (hb1.mono B1.out.size)).size));clear hb1 hb2;go_wp2_with (refine wpList_store_row rfl 58 (.tmp 6) (.tmp 18) rfl w.heap.size recZ rfl rfl 58 _ F2.out (by kernel_rfl) rfl recZ_all ?_)
   refine bodyPost_ret (results_rec rfl _ _ w.heap.size recZ rfl F2.out.row rfl) rfl ?_;exact ⟨recZ,rfl,rfl,recZ_all,fun h=>absurd h (by decide),fun _=>rfl,B2.out.rowK (Nat.le_refl _) _⟩
  | true =>
   rw [hm2] at CM2;have CR:Hid (∀W,Below w.heap.size w W→Calls Tryz.prog 63 #[.pointer (some ⟨r,0,none⟩),kS at_] W fun e w'=>ReadP W (readM M.now at_) e w'):=fun W hb=>rRead_any (H.out.on hb) at_ HAL.out
   clear hm1 hm2;by_cases hz:(readM M.now at_).2=0
   · obtain ⟨n,hl,hm⟩:∃n,look M.now at_=some n∧mayB at_=true:=by
      unfold readM at hz
      cases hm:mayB at_ with
      | false=>rw [hm] at hz;simp at hz
      | true =>
       rw [hm] at hz;simp only [if_true] at hz
       cases hl:look M.now at_ with
       | none=>rw [hl] at hz;exact absurd hz (by decide)
       | some n=>exact ⟨n,rfl,rfl⟩
     have hrd:readM M.now at_=(n,0):=by unfold readM;rw [hm,hl];rfl
     rw [hm,hl] at hrr;simp only [if_true] at hrr;rw [hrd] at CR;have hdg:=HDG.out _ n hl;have hdl:n.data.length≤100000000:=by
      have h1:=used_memN (look_mem hl);have h2:=HG.out.good.w1.used;dsimp only at h1;omega
     have CI:Hid (∀W,0 < W.heap.size→Calls Tryz.prog 57 #[kS q,nodeV n] W fun e w'=>ItemP W q v e w'):=fun W hW=>by
      refine (ritem17_any q n W hW hdl).mono fun e w' h=>?_
      unfold RItemP at h;by_cases hb:4096 < n.data.length
      · have hk:n.kind=1:=by
         cases Classical.em (n.kind=1) with
         | inl e=>exact e
         | inr e=>rw [hdg e] at hb;simp at hb
        rw [if_pos ⟨hk,hb⟩] at h;have hv:v=(3,n0):=by rw [←hrr];unfold badN;rw [if_pos (decide_eq_true hb)]
        subst hv;exact ⟨recZ,h.1,rfl,recZ_all,fun h=>absurd h (by decide),fun _=>rfl,h.2⟩
      · rw [if_neg (fun h=>hb h.2)] at h
        have hv:v=(0,n):=by rw [←hrr];unfold badN;rw [if_neg (by simpa using hb)]
        subst hv;obtain ⟨bv,h1,h2,h3⟩:=h;exact ⟨recN q n bv,h1,rfl,recNall _ _ _ (dgs_one h2),fun _=>⟨bv,rfl,h2⟩,fun h=>absurd rfl h,h3⟩
     clear hrr hz hl hm hrd hdg hdl hroom;obtain ⟨k,d,x,t⟩:=n;have CR2:Hid (∀W,Below w.heap.size w W→Calls Tryz.prog 63 #[.pointer (some ⟨r,0,none⟩),kS at_] W fun e w'=>e=.returned (.tuple #[.agg #[.int .i64 k,kS d,kS x,.int .i64 t],.int .i64 0])∧Below W.heap.size W w'):=CR.out
     have CI2:Hid (∀W,0 < W.heap.size→Calls Tryz.prog 57 #[kS q,.agg #[.int .i64 k,kS d,kS x,.int .i64 t]] W fun e w'=>ItemP W q v e w'):=CI.out
     clear CR CI;go_enter Tryz.func21,Tryz.ntmps21
     go_wp2_with fail
     refine (CM1.out _).mono ?_;rintro e1 w1 ⟨rfl,hb1⟩;go_wp2_with fail
     refine (CM2.out _).mono ?_;rintro e2 w2 ⟨rfl,hb2⟩;have F2:=hid ((F1.out.kept hb1 F1.out.inside).kept hb2 (F1.out.kept hb1 F1.out.inside).inside);have B2:=hid ((B1.out.trans (hb1.mono B1.out.size)).trans (hb2.mono (B1.out.trans (hb1.mono B1.out.size)).size));clear hb1 hb2;go_wp2_with fail
     refine (CR2.out _ B2.out).mono ?_;rintro e3 w3 ⟨rfl,hb3⟩;have b4:Below w3.heap.size w3 (w3.alloc (.cells #[.int .i64 k,kS d,kS x,.int .i64 t] 71)):=(Below.refl _ _).alloc (Nat.le_refl _) _;have B3:=hid (B2.out.trans (hb3.mono B2.out.size));have B4:=hid (B3.out.trans (b4.mono B3.out.size));have F4:=hid ((F2.out.kept hb3 F2.out.inside).more (.cells #[.int .i64 k,kS d,kS x,.int .i64 t] 71));have N4:Hid (Has (w3.alloc (.cells #[.int .i64 k,kS d,kS x,.int .i64 t] 71)) w3.heap.size 71 #[.int .i64 k,kS d,kS x,.int .i64 t]):=Has.fresh _ _ _;clear hb3 b4;go_wp2_with (refine wpList_load_g rfl 71 (.tmp 8) rfl w3.heap.size 0 rfl #[.int .i64 k,kS d,kS x,.int .i64 t] (load_nodeC N4.out) ?_)
     refine (CI2.out _ (Nat.lt_of_lt_of_le HP0.out B4.out.size)).mono ?_;rintro e5 w5 ⟨cs,rfl,hz1,hz2,hz3,hz4,hb5⟩;have B5:=hid (B4.out.trans (hb5.mono B4.out.size));have F5:=hid (F4.out.kept hb5 F4.out.inside);have HZ1:=hid hz1;have HZ2:=hid hz2;have HZ3:=hid hz3;have HZ4:=hid hz4;obtain ⟨c,HC⟩:∃c,Hid (v.1=c):=⟨_,rfl⟩;rw [HC.out];clear hz1 hz2 hz3 hz4 hb5;go_wp2_with (refine wpList_store_row rfl 58 (.tmp 6) (.tmp 35) rfl w.heap.size cs rfl rfl 58 _ F5.out (by rw [HZ1.out];exact iRec27) (by rw [HZ1.out];rfl) HZ2.out ?_)
     refine bodyPost_ret (results_rec rfl _ _ w.heap.size cs rfl F5.out.row HZ1.out) rfl ?_;refine ⟨cs,(by rw [HC.out];rfl),HZ1.out,HZ2.out,fun h0=>?_,HZ4.out,B5.out.rowK (Nat.le_refl _) _⟩
     obtain ⟨bv,e1,e2⟩:=HZ3.out h0;refine ⟨bv,e1,Dgs.mono ⟨row_of e2.own fun b hb=>setRow_other w5 w.heap.size b _ (by
      have h1:=(e2.own.lt b hb).1;have h2:=F4.out.inside;omega),e2.len⟩ B4.out.size⟩
   · obtain ⟨c,HC⟩:∃c,Hid ((readM M.now at_).2=c):=⟨_,rfl⟩
     have hv:v=(c,n0)∧(readM M.now at_).1=n0:=by
      rw [←hrr,←HC.out];unfold readM at hz ⊢
      cases hm:mayB at_ with
      | false=>exact ⟨rfl,rfl⟩
      | true =>
       rw [hm] at hz;simp only [if_true] at hz ⊢
       cases hl:look M.now at_ with
       | none=>exact ⟨rfl,rfl⟩
       | some n=>rw [hl] at hz;exact absurd rfl hz
     obtain ⟨rfl,hn0⟩:=hv;have CR2:Hid (∀W,Below w.heap.size w W→Calls Tryz.prog 63 #[.pointer (some ⟨r,0,none⟩),kS at_] W fun e w'=>e=.returned (.tuple #[.agg #[.int .i64 0,.string ⟨#[]⟩,.string ⟨#[]⟩,.int .i64 0],.int .i64 c])∧Below W.heap.size W w'):=fun W hb=>by
      refine (CR.out W hb).mono ?_;rintro e w' ⟨he,hb'⟩;rw [hn0,HC.out] at he;exact ⟨he,hb'⟩
     have hc0:c≠0:=by rw [←HC.out];exact hz
     have hcq:(c != 0)=true:=by simpa using hc0
     clear hrr hroom CR hz hn0;go_enter Tryz.func21,Tryz.ntmps21
     go_wp2_with fail
     refine (CM1.out _).mono ?_;rintro e1 w1 ⟨rfl,hb1⟩;go_wp2_with fail
     refine (CM2.out _).mono ?_;rintro e2 w2 ⟨rfl,hb2⟩;have F2:=hid ((F1.out.kept hb1 F1.out.inside).kept hb2 (F1.out.kept hb1 F1.out.inside).inside);have B2:=hid ((B1.out.trans (hb1.mono B1.out.size)).trans (hb2.mono (B1.out.trans (hb1.mono B1.out.size)).size));clear hb1 hb2;go_wp2_with fail
     refine (CR2.out _ B2.out).mono ?_;rintro e3 w3 ⟨rfl,hb3⟩;have b4:Below w3.heap.size w3 (w3.alloc (.cells #[.int .i64 0,.string ⟨#[]⟩,.string ⟨#[]⟩,.int .i64 0] 71)):=(Below.refl _ _).alloc (Nat.le_refl _) _;have B3:=hid (B2.out.trans (hb3.mono B2.out.size));have B4:=hid (B3.out.trans (b4.mono B3.out.size));have F4:=hid ((F2.out.kept hb3 F2.out.inside).more (.cells #[.int .i64 0,.string ⟨#[]⟩,.string ⟨#[]⟩,.int .i64 0] 71));have hc1:=hid hc0;clear hb3 b4 hc0;go_wp2_with (refine wpList_store_row rfl 58 (.tmp 6) (.tmp 30) rfl w.heap.size recZ rfl rfl 58 _ F4.out (by kernel_rfl) rfl recZ_all ?_)
     refine bodyPost_ret (results_rec rfl _ _ w.heap.size recZ rfl F4.out.row rfl) rfl ?_;exact ⟨recZ,rfl,rfl,recZ_all,fun h=>absurd h hc1.out,fun _=>rfl,B4.out.rowK (Nat.le_refl _) _⟩
end Go.Proofs.YtahkcemdbfjilaaGreatDoor
