/- Several texts in one. Conditions: those said at each. -/
import Derived.Test.YtahkcemdbfjilaaGreatDoorIt00
import Derived.Test.YtahkcemdbfjilaaGreatDoorIt30
set_option linter.unusedSimpArgs false
set_option linter.unusedVariables false
set_option maxRecDepth 100000
namespace Go.Proofs.YtahkcemdbfjilaaGreatDoor
open Go.RowKit Go.Maps
set_option maxHeartbeats 32000000 in
theorem rnext_mkdir {w:World} {u:Nat} {L:Tr} {room:Nat} (h:TreeR w u L room) (hW:WFT room L) (hT:TG L) (hr:room≤1048576) (p q d:By) (tm m:Int) (pk:Bool) (hm:0≤m) (hd:d.length≤100000000) (hmy:mayB p=true) :
 Calls Tryz.prog 83 #[.pointer (some ⟨u,0,none⟩),.agg (efC 3 p q d tm m pk)] w fun e w'=>NextP w room (nextE room L (cutR (.mkdir p) m pk)) e w':=by
 rw [show cutR (.mkdir p) m pk=.mkdir p by unfold cutR;cases pk<;>rfl]
 have hL:L.length≤16384:=by have h1:=used_len (L:=L);have:=hW.used;omega
 have hU:=hW.used;obtain ⟨D,HD⟩:∃D,Hid (cutD d m pk=D):=⟨_,rfl⟩;have hDl:D.length≤100000000:=by rw [←HD.out];have:=cutD_len d m pk;omega
 obtain ⟨kk,HKK⟩:∃c,Hid (kindP L p=c):=⟨_,rfl⟩;obtain ⟨hh,HH⟩:∃c,Hid (homeE L p=c):=⟨_,rfl⟩;obtain ⟨r,HRR⟩:∃r,Hid (nextE room L (.mkdir p)=r):=⟨_,rfl⟩;rw [HRR.out];have HRD:Hid (r=if hh=0 then (if kk≠0 then (6,L) else if usedL (ins p ⟨2,[],[],0⟩ L)≤room then (0,ins p ⟨2,[],[],0⟩ L) else (7,L)) else (hh,L)):=by
  show _=_
  have h1:=isSome_kind hW (may_ne hmy);rw [HKK.out] at h1;rw [←HRR.out];simp only [nextE,addE,HH.out,putE_used hW.srt,h1]
 have hbx:Below w.heap.size w (w.alloc (.cells (efC 3 p q d tm m pk) 99)):=(Below.refl _ _).alloc (Nat.le_refl _) _;obtain ⟨b,HB⟩:∃b,Hid (w.heap.size=b):=⟨_,rfl⟩;have XB:Hid (Has (w.alloc (.cells (efC 3 p q d tm m pk) 99)) b 99 #[.int .i64 3,kS p,kS q,kS d,.int .i64 tm,.int .i64 m,.bool pk]):=by rw [←HB.out];exact Has.fresh _ _ _
 have B0:=hid hbx;obtain ⟨w1,HW1⟩:∃w1,Hid (w.alloc (.cells (efC 3 p q d tm m pk) 99)=w1):=⟨_,rfl⟩;rw [HW1.out] at B0 XB;have hw1:=HW1.out;have HS1:Hid (w1.heap.size=b+1):=by show _=_;rw [←HW1.out,←HB.out];simp
 have T1:=hid (h.on B0.out);have CK:Hid (Calls Tryz.prog 112 #[.pointer (some ⟨u,0,none⟩),kS p] w1 fun e w'=>e=.returned (.int .i64 kk)∧w1=w'):=by rw [←HKK.out];exact rKind_any T1.out p (by omega)
 have HWF:=hid hW;have HTG:=hid hT;have HR:=hid hr;have HLL:=hid hL;have HUU:=hid hU;obtain ⟨cc,HCC⟩:∃cc,Hid ((pk&&decide (m < (d.length:Int)))=cc):=⟨_,rfl⟩;have hcy:Hid (cc=true→D=d.take m.toNat∧m≤(d.length:Int)):=fun e=>by
  rw [←HD.out,cutD_yes (by rw [HCC.out];exact e)]
  refine ⟨rfl,?_⟩;have h1:=HCC.out;rw [e,Bool.and_eq_true,decide_eq_true_eq] at h1;omega
 have hcn:Hid (cc=false→D=d):=fun e=>by rw [←HD.out,cutD_no (by rw [HCC.out];exact e)]
 have x0:=XB.out.at_ 0;have x1:=XB.out.at_ 1;have x2:=XB.out.at_ 2;have x3:=XB.out.at_ 3;have x4:=XB.out.at_ 4;have x5:=XB.out.at_ 5;have x6:=XB.out.at_ 6;have zd:(ba d).size=d.length:=ba_size d;have HDL:=hid hDl;have CH:Hid (Calls Tryz.prog 132 #[.pointer (some ⟨u,0,none⟩),kS p] w1 fun e w'=>e=.returned (.int .i64 hh)∧Below w1.heap.size w1 w'):=by rw [←HH.out];exact rhome_any T1.out HWF.out p hmy (by have:=(may_parts hmy).1;omega) (by omega)
 have HPL:Hid (p.length≤4000):=by have:=(may_parts hmy).1;show _≤_;omega
 clear h hW hT hr hbx hL hU hDl hd;go_enter Tryz.func83,Tryz.ntmps83
 have hbs:=HB.out;go_wp2_with fail
 refine CK.out.mono ?_;rintro e1 w1' ⟨rfl,rfl⟩;clear hw1 hbs;go_upto_region 3 with fail
 go_cut [27] (fun t w'=>t=.bool cc∧w1=w')
 case first =>
  cases pk with
  | false =>
   have hc:cc=false:=by rw [←HCC.out];rfl
   clear hcy hcn;go_wp2_with fail
   go_meet;exact ⟨by rw [hc],rfl⟩
  | true =>
   have hc:decide (m < (d.length:Int))=cc:=by rw [←HCC.out];rfl
   clear hcy hcn;go_wp2_with fail
   go_meet;exact ⟨rfl,rfl⟩
 case rest =>
  obtain ⟨rfl,rfl⟩:=hcut;go_upto_if 27 with fail
  go_cut [7] (fun t w'=>t=kS D∧w1=w')
  case first =>
   cases cc with
   | false =>
    have hc:=hcn.out rfl;clear hcy hcn;go_wp2_with fail
    go_meet;exact ⟨by rw [hc],rfl⟩
   | true =>
    obtain ⟨hc,hml⟩:=hcy.out rfl;have e1:(ba d).extract 0 m.toNat=ba D:=by rw [hc];exact ba_cut0 d _
    clear hcy hcn hc;go_wp2_with fail
    go_meet;exact ⟨rfl,rfl⟩
  case rest =>
   obtain ⟨rfl,rfl⟩:=hcut;clear hcy hcn;go_wp2_with fail
   refine CH.out.mono ?_;rintro e2 w2 ⟨rfl,hb2⟩;have XB2:=hid (XB.out.kept hb2 XB.out.inside);have B2:Hid (Below w.heap.size w w2):=B0.out.trans (hb2.mono B0.out.size);have T2:=hid (T1.out.on hb2);clear x0 x1 x2 x3 x4 x5 x6;clear hb2;have x0:=XB2.out.at_ 0;have x1:=XB2.out.at_ 1;have x2:=XB2.out.at_ 2;have x3:=XB2.out.at_ 3;have x4:=XB2.out.at_ 4;have x5:=XB2.out.at_ 5;have x6:=XB2.out.at_ 6;by_cases hh0:hh=0
   · have q0:(hh != 0)=false:=by simp [hh0]
     have HR1:=hid (HRD.out.trans (if_pos hh0));clear hh0;by_cases k0:kk=0
     · have q2:(kk != 0)=false:=by simp [k0]
       have HR2:=hid (HR1.out.trans (if_neg (fun k=>k k0)))
       clear k0;go_upto_region 26 with fail
       obtain ⟨w3,HW3⟩:∃w3,Hid (w2.alloc (.cells #[.int .i64 1,.string (ba D),.string ⟨#[]⟩,.int .i64 tm] 71)=w3):=⟨_,rfl⟩;obtain ⟨b2,HB2⟩:∃b2,Hid (w2.heap.size=b2):=⟨_,rfl⟩;have XN:Hid (Has w3 b2 71 (ndA 1 D [] tm)):=by rw [←HW3.out,←HB2.out];exact Has.fresh _ _ _
       have hb3:Below w2.heap.size w2 w3:=by rw [←HW3.out];exact (Below.refl _ _).alloc (Nat.le_refl _) _
       have XB3:=hid (XB2.out.kept hb3 XB2.out.inside);have B3:Hid (Below w.heap.size w w3):=B2.out.trans (hb3.mono B2.out.size);have T3:=hid (T2.out.on hb3);rw [HW3.out,HB2.out];have HB3:=hid hb3;clear hb3;clear x0 x1 x2 x3 x4 x5 x6;have x0:=XB3.out.at_ 0;have x1:=XB3.out.at_ 1;have x2:=XB3.out.at_ 2;have x3:=XB3.out.at_ 3;have x4:=XB3.out.at_ 4;have x5:=XB3.out.at_ 5;have x6:=XB3.out.at_ 6;have TH:=hid (XN.out.there 0 4 (by show 0+4≤4;omega))
       obtain ⟨w3b,HW3b⟩:∃w3b,Hid (w3.setCells b2 0 [.int .i64 2,kS [],kS [],.int .i64 0]=w3b):=⟨_,rfl⟩;have hle:w2.heap.size≤b2:=by rw [HB2.out];exact Nat.le_refl _
       have XN4:Hid (Has w3b b2 71 (ndA 2 [] [] 0)):=by rw [←HW3b.out];exact (((XN.out.put 0 _).put 1 _).put 2 _).put 3 _
       have hb23:Below w2.heap.size w2 w3b:=by rw [←HW3b.out];exact ((((HB3.out.setCell (p:=⟨b2,0,none⟩) hle _).setCell (p:=⟨b2,1,none⟩) hle _).setCell (p:=⟨b2,2,none⟩) hle _).setCell (p:=⟨b2,3,none⟩) hle _)
       have XB4:=hid (XB2.out.kept hb23 XB2.out.inside);have B4b:Hid (Below w.heap.size w w3b):=B2.out.trans (hb23.mono B2.out.size);have T4b:=hid (T2.out.on hb23);have HRT:=HR2;clear hb23;have y0:=XB4.out.at_ 0;have y1:=XB4.out.at_ 1;have y2:=XB4.out.at_ 2;have y3:=XB4.out.at_ 3;have y4:=XB4.out.at_ 4;have y5:=XB4.out.at_ 5;have y6:=XB4.out.at_ 6;go_upto_region 34 with (refine wpList_store_mid rfl 71 (.tmp 10) (.tmp 139) rfl b2 0 #[.int .i64 2,kS [],kS [],.int .i64 0] rfl rfl TH.out (by kernel_rfl) (by simp [Value.oneCell']) ?_;change wpList _ _ _ _ _ (World.setCells w3 b2 0 [.int .i64 2,kS [],kS [],.int .i64 0]);rw [HW3b.out])
       clear hle y0 y1 y2 y3 y4 y5 y6;clear x0 x1 x2 x3 x4 x5 x6;have x0:=XB4.out.at_ 0;have x1:=XB4.out.at_ 1;have x2:=XB4.out.at_ 2;have x3:=XB4.out.at_ 3;have x4:=XB4.out.at_ 4;have x5:=XB4.out.at_ 5;have x6:=XB4.out.at_ 6;have CWT:Hid (Calls Tryz.prog 133 #[.pointer (some ⟨u,0,none⟩),kS p,.agg (ndA 2 [] [] 0)] w3b fun e w'=>NewT w3b (ins p ⟨2,[],[],0⟩ L) room e w'):=rwith_any T4b.out p 2 [] [] 0 HPL.out (by have:=HLL.out;omega) (HWF.out.short)
       go_wp2_with (first
        | (refine wpList_load_nodeC rfl (.tmp 10) rfl b2 rfl 2 [] [] 0 XN4.out ?_))
       refine CWT.out.mono ?_;rintro e4 w4 ⟨o4,rfl,ht4,hb4⟩;have T4:=hid (ht4.mono B4b.out.size);have B4:Hid (Below w.heap.size w w4):=B4b.out.trans (hb4.mono B4b.out.size);have hu4:=(T4b.out.on hb4);have HK:=hid (used_ins HWF.out.srt p ⟨2,[],[],0⟩);obtain ⟨K,HKD⟩:∃K,Hid (ins p ⟨2,[],[],0⟩ L=K):=⟨_,rfl⟩;rw [HKD.out] at T4 HRT HK;have HUK:Hid (usedL K≤1000000000):=by have h1:=HK.out;have h2:=HUU.out;have h3:=HR.out;show _≤_;unfold useN at h1;simp only [List.length_nil] at h1;omega
       have HU4:Hid (w4.drew.cell? ⟨u,1,none⟩=some (.int .i64 (room:Int))):=by obtain ⟨A,n,c,hv⟩:=hu4.view;exact hv.c1
       have CU:=hid (rUsed_any (T4.out.tree.on (Below.refl _ _).drew) HUK.out);have T5:=hid (T4.out.on (Below.refl _ _).drew);have B5:=hid B4.out.drew;clear ht4 hb4 hu4 x0 x1 x2 x3 x4 x5 x6;go_upto_region 35 with fail
       refine wp_region_noPanic ?_;refine wp_region_held_drew (S:=fun W=>W.cell? ⟨u,1,none⟩=some (.int .i64 (room:Int))) (by kernel_rfl) (HU4.out) (fun hS=>?_)
       generalize w4.drew=w5 at *;refine tkH 0 (v:=?_) (by simp only [lkA,lkB];rfl) (by kernel_rfl) (fun _ _ _ h=>h) (by rfl) (by assumption) ?_ ?_
       rotate_left 1
       · intro w hSw
         go_simp
         with_reducible rfl
       simp only [Act.put,siA,siB,siC];refine inI 2 ?_
       iterate 3
        refine stI (v:=?_) (by simp only [lkA,lkB,lkC];rfl) (by kernel_rfl) (fun _ _ _ h=>h) (by rfl) (by assumption) ?_ ?_
        rotate_left 1
        · intro w hSw
          go_simp
          with_reducible rfl
        simp only [Act.put,siA,siB,siC,Nat.reduceAdd]
       refine outI ?_;refine tkH 5 (v:=?_) (by simp only [lkA,lkB,lkC];rfl) (by kernel_rfl) (fun _ _ _ h=>h) (by rfl) (by assumption) ?_ ?_
       rotate_left 1
       · intro w hSw
         have hc:w.cell? ⟨u,1,none⟩=some (.int .i64 (room:Int)):=hSw;go_simp
         with_reducible rfl
       simp only [Act.put,siA,siB,siC];refine wpAnyH_ready (rs:=[1]) (by kernel_rfl) (by simp) ?_
       refine AllReadyH.cons (by simp only [lkA,lkB,lkC];rfl) (fun K hK=>?_) AllReadyH.nil
       go_simp;refine (CU.out).mono ?_;rintro e5 w6 ⟨rfl,rfl⟩;have hz1:=HU4.out;refine hK.out _ _ hz1 (fun hS=>?_)
       clear hK K hS;refine tkH 6 (v:=?_) (by simp only [lkA,lkB,lkC];rfl) (by kernel_rfl) (fun _ _ _ h=>h) (by rfl) (by assumption) ?_ ?_
       rotate_left 1
       · intro w hSw
         go_simp
         with_reducible rfl
       simp only [Act.put,siA,siB,siC];refine wpAnyH_done (by kernel_rfl) ?_ _
       refine NoPanic.normal ?_;by_cases hu:usedL K≤room
       · have hq:¬((room:Int) < ((usedL K:Nat):Int)):=by omega
         have HR5:=hid (HRT.out.trans (if_pos hu));clear hu;go_wp2;go_ret2;exact .inl ⟨by rw [HR5.out],o4,rfl,by rw [HR5.out];exact T5.out,B5.out⟩
       · have hq:(room:Int) < ((usedL K:Nat):Int):=by omega
         have HE:Hid (r.1=7):=by show _=_;rw [HRT.out,if_neg hu]
         clear hu;go_wp2;go_ret2;exact NextP.bad HE.out (by decide) B5.out
     · have q2:(kk != 0)=true:=by simpa using k0
       have HE:Hid (r.1=6):=by show _=_;rw [HR1.out,if_pos k0]
       clear k0;go_wp2;go_ret2;exact NextP.bad HE.out (by decide) B2.out
   · have q0:(hh != 0)=true:=by simpa using hh0
     have HE:Hid (r.1=hh):=by show _=_;rw [HRD.out,if_neg hh0]
     have HH0:=hid hh0;clear hh0;go_wp2;go_ret2;exact NextP.bad HE.out HH0.out B2.out
set_option maxHeartbeats 32000000 in
theorem rnext_link {w:World} {u:Nat} {L:Tr} {room:Nat} (h:TreeR w u L room) (hW:WFT room L) (hT:TG L) (hr:room≤1048576) (p q d:By) (tm m:Int) (pk:Bool) (hm:0≤m) (hd:d.length≤100000000) (hmy:mayB p=true) :
 Calls Tryz.prog 83 #[.pointer (some ⟨u,0,none⟩),.agg (efC 4 p q d tm m pk)] w fun e w'=>NextP w room (nextE room L (cutR (.link p d tm) m pk)) e w':=by
 rw [show cutR (.link p d tm) m pk=.link p d tm by unfold cutR;cases pk<;>rfl]
 have hL:L.length≤16384:=by have h1:=used_len (L:=L);have:=hW.used;omega
 have hU:=hW.used;obtain ⟨D,HD⟩:∃D,Hid (cutD d m pk=D):=⟨_,rfl⟩;have hDl:D.length≤100000000:=by rw [←HD.out];have:=cutD_len d m pk;omega
 obtain ⟨kk,HKK⟩:∃c,Hid (kindP L p=c):=⟨_,rfl⟩;obtain ⟨hh,HH⟩:∃c,Hid (homeE L p=c):=⟨_,rfl⟩;obtain ⟨r,HRR⟩:∃r,Hid (nextE room L (.link p d tm)=r):=⟨_,rfl⟩;rw [HRR.out];have HRD:Hid (r=if hh=0 then (if kk≠0 then (6,L) else if usedL (ins p ⟨3,[],d,tm⟩ L)≤room then (0,ins p ⟨3,[],d,tm⟩ L) else (7,L)) else (hh,L)):=by
  show _=_
  have h1:=isSome_kind hW (may_ne hmy);rw [HKK.out] at h1;rw [←HRR.out];simp only [nextE,addE,HH.out,putE_used hW.srt,h1]
 have hbx:Below w.heap.size w (w.alloc (.cells (efC 4 p q d tm m pk) 99)):=(Below.refl _ _).alloc (Nat.le_refl _) _;obtain ⟨b,HB⟩:∃b,Hid (w.heap.size=b):=⟨_,rfl⟩;have XB:Hid (Has (w.alloc (.cells (efC 4 p q d tm m pk) 99)) b 99 #[.int .i64 4,kS p,kS q,kS d,.int .i64 tm,.int .i64 m,.bool pk]):=by rw [←HB.out];exact Has.fresh _ _ _
 have B0:=hid hbx;obtain ⟨w1,HW1⟩:∃w1,Hid (w.alloc (.cells (efC 4 p q d tm m pk) 99)=w1):=⟨_,rfl⟩;rw [HW1.out] at B0 XB;have hw1:=HW1.out;have HS1:Hid (w1.heap.size=b+1):=by show _=_;rw [←HW1.out,←HB.out];simp
 have T1:=hid (h.on B0.out);have CK:Hid (Calls Tryz.prog 112 #[.pointer (some ⟨u,0,none⟩),kS p] w1 fun e w'=>e=.returned (.int .i64 kk)∧w1=w'):=by rw [←HKK.out];exact rKind_any T1.out p (by omega)
 have HWF:=hid hW;have HTG:=hid hT;have HR:=hid hr;have HLL:=hid hL;have HUU:=hid hU;obtain ⟨cc,HCC⟩:∃cc,Hid ((pk&&decide (m < (d.length:Int)))=cc):=⟨_,rfl⟩;have hcy:Hid (cc=true→D=d.take m.toNat∧m≤(d.length:Int)):=fun e=>by
  rw [←HD.out,cutD_yes (by rw [HCC.out];exact e)]
  refine ⟨rfl,?_⟩;have h1:=HCC.out;rw [e,Bool.and_eq_true,decide_eq_true_eq] at h1;omega
 have hcn:Hid (cc=false→D=d):=fun e=>by rw [←HD.out,cutD_no (by rw [HCC.out];exact e)]
 have x0:=XB.out.at_ 0;have x1:=XB.out.at_ 1;have x2:=XB.out.at_ 2;have x3:=XB.out.at_ 3;have x4:=XB.out.at_ 4;have x5:=XB.out.at_ 5;have x6:=XB.out.at_ 6;have zd:(ba d).size=d.length:=ba_size d;have HDL:=hid hDl;have CH:Hid (Calls Tryz.prog 132 #[.pointer (some ⟨u,0,none⟩),kS p] w1 fun e w'=>e=.returned (.int .i64 hh)∧Below w1.heap.size w1 w'):=by rw [←HH.out];exact rhome_any T1.out HWF.out p hmy (by have:=(may_parts hmy).1;omega) (by omega)
 have HPL:Hid (p.length≤4000):=by have:=(may_parts hmy).1;show _≤_;omega
 clear h hW hT hr hbx hL hU hDl hd;go_enter Tryz.func83,Tryz.ntmps83
 have hbs:=HB.out;go_wp2_with fail
 refine CK.out.mono ?_;rintro e1 w1' ⟨rfl,rfl⟩;clear hw1 hbs;go_upto_region 3 with fail
 go_cut [27] (fun t w'=>t=.bool cc∧w1=w')
 case first =>
  cases pk with
  | false =>
   have hc:cc=false:=by rw [←HCC.out];rfl
   clear hcy hcn;go_wp2_with fail
   go_meet;exact ⟨by rw [hc],rfl⟩
  | true =>
   have hc:decide (m < (d.length:Int))=cc:=by rw [←HCC.out];rfl
   clear hcy hcn;go_wp2_with fail
   go_meet;exact ⟨rfl,rfl⟩
 case rest =>
  obtain ⟨rfl,rfl⟩:=hcut;go_upto_if 27 with fail
  go_cut [7] (fun t w'=>t=kS D∧w1=w')
  case first =>
   cases cc with
   | false =>
    have hc:=hcn.out rfl;clear hcy hcn;go_wp2_with fail
    go_meet;exact ⟨by rw [hc],rfl⟩
   | true =>
    obtain ⟨hc,hml⟩:=hcy.out rfl;have e1:(ba d).extract 0 m.toNat=ba D:=by rw [hc];exact ba_cut0 d _
    clear hcy hcn hc;go_wp2_with fail
    go_meet;exact ⟨rfl,rfl⟩
  case rest =>
   obtain ⟨rfl,rfl⟩:=hcut;clear hcy hcn;go_wp2_with fail
   refine CH.out.mono ?_;rintro e2 w2 ⟨rfl,hb2⟩;have XB2:=hid (XB.out.kept hb2 XB.out.inside);have B2:Hid (Below w.heap.size w w2):=B0.out.trans (hb2.mono B0.out.size);have T2:=hid (T1.out.on hb2);clear x0 x1 x2 x3 x4 x5 x6;clear hb2;have x0:=XB2.out.at_ 0;have x1:=XB2.out.at_ 1;have x2:=XB2.out.at_ 2;have x3:=XB2.out.at_ 3;have x4:=XB2.out.at_ 4;have x5:=XB2.out.at_ 5;have x6:=XB2.out.at_ 6;by_cases hh0:hh=0
   · have q0:(hh != 0)=false:=by simp [hh0]
     have HR1:=hid (HRD.out.trans (if_pos hh0));clear hh0;by_cases k0:kk=0
     · have q2:(kk != 0)=false:=by simp [k0]
       have HR2:=hid (HR1.out.trans (if_neg (fun k=>k k0)))
       clear k0;go_upto_region 26 with fail
       obtain ⟨w3,HW3⟩:∃w3,Hid (w2.alloc (.cells #[.int .i64 1,.string (ba D),.string ⟨#[]⟩,.int .i64 tm] 71)=w3):=⟨_,rfl⟩;obtain ⟨b2,HB2⟩:∃b2,Hid (w2.heap.size=b2):=⟨_,rfl⟩;have XN:Hid (Has w3 b2 71 (ndA 1 D [] tm)):=by rw [←HW3.out,←HB2.out];exact Has.fresh _ _ _
       have hb3:Below w2.heap.size w2 w3:=by rw [←HW3.out];exact (Below.refl _ _).alloc (Nat.le_refl _) _
       have XB3:=hid (XB2.out.kept hb3 XB2.out.inside);have B3:Hid (Below w.heap.size w w3):=B2.out.trans (hb3.mono B2.out.size);have T3:=hid (T2.out.on hb3);rw [HW3.out,HB2.out];have HB3:=hid hb3;clear hb3;clear x0 x1 x2 x3 x4 x5 x6;have x0:=XB3.out.at_ 0;have x1:=XB3.out.at_ 1;have x2:=XB3.out.at_ 2;have x3:=XB3.out.at_ 3;have x4:=XB3.out.at_ 4;have x5:=XB3.out.at_ 5;have x6:=XB3.out.at_ 6;have TH:=hid (XN.out.there 0 4 (by show 0+4≤4;omega))
       obtain ⟨w3b,HW3b⟩:∃w3b,Hid (w3.setCells b2 0 [.int .i64 3,kS [],kS d,.int .i64 tm]=w3b):=⟨_,rfl⟩;have hle:w2.heap.size≤b2:=by rw [HB2.out];exact Nat.le_refl _
       have XN4:Hid (Has w3b b2 71 (ndA 3 [] d tm)):=by rw [←HW3b.out];exact (((XN.out.put 0 _).put 1 _).put 2 _).put 3 _
       have hb23:Below w2.heap.size w2 w3b:=by rw [←HW3b.out];exact ((((HB3.out.setCell (p:=⟨b2,0,none⟩) hle _).setCell (p:=⟨b2,1,none⟩) hle _).setCell (p:=⟨b2,2,none⟩) hle _).setCell (p:=⟨b2,3,none⟩) hle _)
       have XB4:=hid (XB2.out.kept hb23 XB2.out.inside);have B4b:Hid (Below w.heap.size w w3b):=B2.out.trans (hb23.mono B2.out.size);have T4b:=hid (T2.out.on hb23);have HRT:=HR2;clear hb23;have y0:=XB4.out.at_ 0;have y1:=XB4.out.at_ 1;have y2:=XB4.out.at_ 2;have y3:=XB4.out.at_ 3;have y4:=XB4.out.at_ 4;have y5:=XB4.out.at_ 5;have y6:=XB4.out.at_ 6;go_upto_region 34 with (refine wpList_store_mid rfl 71 (.tmp 10) (.tmp 147) rfl b2 0 #[.int .i64 3,kS [],kS d,.int .i64 tm] rfl rfl TH.out (by kernel_rfl) (by simp [Value.oneCell']) ?_;change wpList _ _ _ _ _ (World.setCells w3 b2 0 [.int .i64 3,kS [],kS d,.int .i64 tm]);rw [HW3b.out])
       clear hle y0 y1 y2 y3 y4 y5 y6;clear x0 x1 x2 x3 x4 x5 x6;have x0:=XB4.out.at_ 0;have x1:=XB4.out.at_ 1;have x2:=XB4.out.at_ 2;have x3:=XB4.out.at_ 3;have x4:=XB4.out.at_ 4;have x5:=XB4.out.at_ 5;have x6:=XB4.out.at_ 6;have CWT:Hid (Calls Tryz.prog 133 #[.pointer (some ⟨u,0,none⟩),kS p,.agg (ndA 3 [] d tm)] w3b fun e w'=>NewT w3b (ins p ⟨3,[],d,tm⟩ L) room e w'):=rwith_any T4b.out p 3 [] d tm HPL.out (by have:=HLL.out;omega) (HWF.out.short)
       go_wp2_with (first
        | (refine wpList_load_nodeC rfl (.tmp 10) rfl b2 rfl 3 [] d tm XN4.out ?_))
       refine CWT.out.mono ?_;rintro e4 w4 ⟨o4,rfl,ht4,hb4⟩;have T4:=hid (ht4.mono B4b.out.size);have B4:Hid (Below w.heap.size w w4):=B4b.out.trans (hb4.mono B4b.out.size);have hu4:=(T4b.out.on hb4);have HK:=hid (used_ins HWF.out.srt p ⟨3,[],d,tm⟩);obtain ⟨K,HKD⟩:∃K,Hid (ins p ⟨3,[],d,tm⟩ L=K):=⟨_,rfl⟩;rw [HKD.out] at T4 HRT HK;have HUK:Hid (usedL K≤1000000000):=by have h1:=HK.out;have h2:=HUU.out;have h3:=HR.out;show _≤_;unfold useN at h1;simp only [List.length_nil] at h1;omega
       have HU4:Hid (w4.drew.cell? ⟨u,1,none⟩=some (.int .i64 (room:Int))):=by obtain ⟨A,n,c,hv⟩:=hu4.view;exact hv.c1
       have CU:=hid (rUsed_any (T4.out.tree.on (Below.refl _ _).drew) HUK.out);have T5:=hid (T4.out.on (Below.refl _ _).drew);have B5:=hid B4.out.drew;clear ht4 hb4 hu4 x0 x1 x2 x3 x4 x5 x6;go_upto_region 35 with fail
       refine wp_region_noPanic ?_;refine wp_region_held_drew (S:=fun W=>W.cell? ⟨u,1,none⟩=some (.int .i64 (room:Int))) (by kernel_rfl) (HU4.out) (fun hS=>?_)
       generalize w4.drew=w5 at *;refine tkH 0 (v:=?_) (by simp only [lkA,lkB];rfl) (by kernel_rfl) (fun _ _ _ h=>h) (by rfl) (by assumption) ?_ ?_
       rotate_left 1
       · intro w hSw
         go_simp
         with_reducible rfl
       simp only [Act.put,siA,siB,siC];refine inI 2 ?_
       iterate 3
        refine stI (v:=?_) (by simp only [lkA,lkB,lkC];rfl) (by kernel_rfl) (fun _ _ _ h=>h) (by rfl) (by assumption) ?_ ?_
        rotate_left 1
        · intro w hSw
          go_simp
          with_reducible rfl
        simp only [Act.put,siA,siB,siC,Nat.reduceAdd]
       refine outI ?_;refine tkH 5 (v:=?_) (by simp only [lkA,lkB,lkC];rfl) (by kernel_rfl) (fun _ _ _ h=>h) (by rfl) (by assumption) ?_ ?_
       rotate_left 1
       · intro w hSw
         have hc:w.cell? ⟨u,1,none⟩=some (.int .i64 (room:Int)):=hSw;go_simp
         with_reducible rfl
       simp only [Act.put,siA,siB,siC];refine wpAnyH_ready (rs:=[1]) (by kernel_rfl) (by simp) ?_
       refine AllReadyH.cons (by simp only [lkA,lkB,lkC];rfl) (fun K hK=>?_) AllReadyH.nil
       go_simp;refine (CU.out).mono ?_;rintro e5 w6 ⟨rfl,rfl⟩;have hz1:=HU4.out;refine hK.out _ _ hz1 (fun hS=>?_)
       clear hK K hS;refine tkH 6 (v:=?_) (by simp only [lkA,lkB,lkC];rfl) (by kernel_rfl) (fun _ _ _ h=>h) (by rfl) (by assumption) ?_ ?_
       rotate_left 1
       · intro w hSw
         go_simp
         with_reducible rfl
       simp only [Act.put,siA,siB,siC];refine wpAnyH_done (by kernel_rfl) ?_ _
       refine NoPanic.normal ?_;by_cases hu:usedL K≤room
       · have hq:¬((room:Int) < ((usedL K:Nat):Int)):=by omega
         have HR5:=hid (HRT.out.trans (if_pos hu));clear hu;go_wp2;go_ret2;exact .inl ⟨by rw [HR5.out],o4,rfl,by rw [HR5.out];exact T5.out,B5.out⟩
       · have hq:(room:Int) < ((usedL K:Nat):Int):=by omega
         have HE:Hid (r.1=7):=by show _=_;rw [HRT.out,if_neg hu]
         clear hu;go_wp2;go_ret2;exact NextP.bad HE.out (by decide) B5.out
     · have q2:(kk != 0)=true:=by simpa using k0
       have HE:Hid (r.1=6):=by show _=_;rw [HR1.out,if_pos k0]
       clear k0;go_wp2;go_ret2;exact NextP.bad HE.out (by decide) B2.out
   · have q0:(hh != 0)=true:=by simpa using hh0
     have HE:Hid (r.1=hh):=by show _=_;rw [HRD.out,if_neg hh0]
     have HH0:=hid hh0;clear hh0;go_wp2;go_ret2;exact NextP.bad HE.out HH0.out B2.out
end Go.Proofs.YtahkcemdbfjilaaGreatDoor
