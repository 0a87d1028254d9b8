/- Several texts in one. Conditions: those said at each. -/
import Derived.Test.YtahkcemdbfjilaaGreatDoorIt00
import Derived.Test.YtahkcemdbfjilaaGreatDoorIt29
set_option linter.unusedSimpArgs false
set_option linter.unusedVariables false
set_option maxRecDepth 100000
namespace Go.Proofs.YtahkcemdbfjilaaGreatDoor
open Go.RowKit Go.Maps
def cutD (d:By) (m:Int) (pk:Bool):By:=if pk&&decide (m < (d.length:Int)) then d.take m.toNat else d
theorem cutD_len (d:By) (m:Int) (pk:Bool):(cutD d m pk).length≤d.length:=by
 unfold cutD;split
 · rw [List.length_take];omega
 · exact Nat.le_refl _
theorem cutD_yes {d:By} {m:Int} {pk:Bool} (h:(pk&&decide (m < (d.length:Int)))=true):cutD d m pk=d.take m.toNat:=if_pos h
theorem cutD_no {d:By} {m:Int} {pk:Bool} (h:(pk&&decide (m < (d.length:Int)))=false):cutD d m pk=d:=if_neg (by rw [h];decide)
def cutR (x:Eff) (m:Int) (pk:Bool):Eff:=if pk then cutE x m.toNat else x
theorem cutR_write (p d:By) (t m:Int) (pk:Bool) (hm:0≤m):cutR (.write p d t) m pk=.write p (cutD d m pk) t:=by
 unfold cutR cutD
 cases pk with
 | false=>rfl
 | true =>
  rw [if_pos rfl,Bool.true_and];by_cases h:m < (d.length:Int)
  · rw [decide_eq_true h];rfl
  · rw [decide_eq_false h];exact cutE_all _ _ (by show d.length≤_;omega)
theorem taken_kind (L:Tr) {p:By} (h:p≠[]):takenE L p=if kindP L p=2 then 12 else if kindP L p=3 then 11 else 0:=by
 unfold takenE kindP;rw [if_neg h]
 cases look L p with
 | none=>rfl
 | some n=>rfl
theorem isSome_kind {room:Nat} {L:Tr} (hW:WFT room L) {p:By} (h:p≠[]):(look L p).isSome↔kindP L p≠0:=by
 unfold kindP;rw [if_neg h]
 cases hl:look L p with
 | none=>simp
 | some m=>have:=hW.kind p m hl;simp;omega
theorem putE_used {room:Nat} {L:Tr} (h:Srt L) (p:By) (n:Nd):putE room L p n=if usedL (ins p n L)≤room then (0,ins p n L) else (7,L):=by
 have:=used_ins h p n;unfold putE;by_cases k:usedL L+useN n≤room+useP L p
 · rw [if_pos k,if_pos (by omega)]
 · rw [if_neg k,if_neg (by omega)]
theorem ba_cut0 (s:By) (k:Nat):(ba s).extract 0 k=ba (s.take k):=by
 apply ByteArray.ext;simp [ba,ByteArray.data_extract]
set_option maxHeartbeats 32000000 in
theorem rnext_write {w:World} {u:Nat} {L:Tr} {room:Nat} (h:TreeR w u L room) (hW:WFT room L) (hT:TG L) (hr:room≤1048576) (p q d:By) (tm m:Int) (pk:Bool) (hm:0≤m) (hd:d.length≤100000000) (hmy:mayB p=true) :
 Calls Tryz.prog 83 #[.pointer (some ⟨u,0,none⟩),.agg (efC 1 p q d tm m pk)] w fun e w'=>NextP w room (nextE room L (cutR (.write p d tm) m pk)) e w':=by
 rw [cutR_write p d tm m pk hm];have hL:L.length≤16384:=by have h1:=used_len (L:=L);have:=hW.used;omega
 have hU:=hW.used;obtain ⟨D,HD⟩:∃D,Hid (cutD d m pk=D):=⟨_,rfl⟩;have hDl:D.length≤100000000:=by rw [←HD.out];have:=cutD_len d m pk;omega
 obtain ⟨kk,HKK⟩:∃c,Hid (kindP L p=c):=⟨_,rfl⟩;obtain ⟨hh,HH⟩:∃c,Hid (homeE L p=c):=⟨_,rfl⟩;obtain ⟨r,HRR⟩:∃r,Hid (nextE room L (.write p (cutD d m pk) tm)=r):=⟨_,rfl⟩;rw [HRR.out];have HRD:Hid (r=if hh=0 then (if kk=2 then (12,L) else if kk=3 then (11,L) else if usedL (ins p ⟨1,D,[],tm⟩ L)≤room then (0,ins p ⟨1,D,[],tm⟩ L) else (7,L)) else (hh,L)):=by
  show _=_
  rw [←HRR.out];simp only [nextE,HH.out,HD.out,taken_kind L (may_ne hmy),HKK.out,putE_used hW.srt];by_cases k2:kk=2
  · simp [k2]
  · by_cases k3:kk=3
    · simp [k3]
    · simp [k2,k3]
 have hbx:Below w.heap.size w (w.alloc (.cells (efC 1 p q d tm m pk) 99)):=(Below.refl _ _).alloc (Nat.le_refl _) _;obtain ⟨b,HB⟩:∃b,Hid (w.heap.size=b):=⟨_,rfl⟩;have XB:Hid (Has (w.alloc (.cells (efC 1 p q d tm m pk) 99)) b 99 #[.int .i64 1,kS p,kS q,kS d,.int .i64 tm,.int .i64 m,.bool pk]):=by rw [←HB.out];exact Has.fresh _ _ _
 have B0:=hid hbx;obtain ⟨w1,HW1⟩:∃w1,Hid (w.alloc (.cells (efC 1 p q d tm m pk) 99)=w1):=⟨_,rfl⟩;rw [HW1.out] at B0 XB;have hw1:=HW1.out;have HS1:Hid (w1.heap.size=b+1):=by show _=_;rw [←HW1.out,←HB.out];simp
 have T1:=hid (h.on B0.out);have CK:Hid (Calls Tryz.prog 112 #[.pointer (some ⟨u,0,none⟩),kS p] w1 fun e w'=>e=.returned (.int .i64 kk)∧w1=w'):=by rw [←HKK.out];exact rKind_any T1.out p (by omega)
 have HWF:=hid hW;have HTG:=hid hT;have HR:=hid hr;have HLL:=hid hL;have HUU:=hid hU;obtain ⟨cc,HCC⟩:∃cc,Hid ((pk&&decide (m < (d.length:Int)))=cc):=⟨_,rfl⟩;have hcy:Hid (cc=true→D=d.take m.toNat∧m≤(d.length:Int)):=fun e=>by
  rw [←HD.out,cutD_yes (by rw [HCC.out];exact e)]
  refine ⟨rfl,?_⟩;have h1:=HCC.out;rw [e,Bool.and_eq_true,decide_eq_true_eq] at h1;omega
 have hcn:Hid (cc=false→D=d):=fun e=>by rw [←HD.out,cutD_no (by rw [HCC.out];exact e)]
 have x0:=XB.out.at_ 0;have x1:=XB.out.at_ 1;have x2:=XB.out.at_ 2;have x3:=XB.out.at_ 3;have x4:=XB.out.at_ 4;have x5:=XB.out.at_ 5;have x6:=XB.out.at_ 6;have zd:(ba d).size=d.length:=ba_size d;have HDL:=hid hDl;have CH:Hid (Calls Tryz.prog 132 #[.pointer (some ⟨u,0,none⟩),kS p] w1 fun e w'=>e=.returned (.int .i64 hh)∧Below w1.heap.size w1 w'):=by rw [←HH.out];exact rhome_any T1.out HWF.out p hmy (by have:=(may_parts hmy).1;omega) (by omega)
 have HPL:Hid (p.length≤4000):=by have:=(may_parts hmy).1;show _≤_;omega
 clear h hW hT hr hbx hL hU hDl hd;go_enter Tryz.func83,Tryz.ntmps83
 have hbs:=HB.out;go_wp2_with fail
 refine CK.out.mono ?_;rintro e1 w1' ⟨rfl,rfl⟩;clear hw1 hbs;go_upto_region 3 with fail
 go_cut [27] (fun t w'=>t=.bool cc∧w1=w')
 case first =>
  cases pk with
  | false =>
   have hc:cc=false:=by rw [←HCC.out];rfl
   clear hcy hcn;go_wp2_with fail
   go_meet;exact ⟨by rw [hc],rfl⟩
  | true =>
   have hc:decide (m < (d.length:Int))=cc:=by rw [←HCC.out];rfl
   clear hcy hcn;go_wp2_with fail
   go_meet;exact ⟨rfl,rfl⟩
 case rest =>
  obtain ⟨rfl,rfl⟩:=hcut;go_upto_if 27 with fail
  go_cut [7] (fun t w'=>t=kS D∧w1=w')
  case first =>
   cases cc with
   | false =>
    have hc:=hcn.out rfl;clear hcy hcn;go_wp2_with fail
    go_meet;exact ⟨by rw [hc],rfl⟩
   | true =>
    obtain ⟨hc,hml⟩:=hcy.out rfl;have e1:(ba d).extract 0 m.toNat=ba D:=by rw [hc];exact ba_cut0 d _
    clear hcy hcn hc;go_wp2_with fail
    go_meet;exact ⟨rfl,rfl⟩
  case rest =>
   obtain ⟨rfl,rfl⟩:=hcut;clear hcy hcn;go_wp2_with fail
   refine CH.out.mono ?_;rintro e2 w2 ⟨rfl,hb2⟩;have XB2:=hid (XB.out.kept hb2 XB.out.inside);have B2:Hid (Below w.heap.size w w2):=B0.out.trans (hb2.mono B0.out.size);have T2:=hid (T1.out.on hb2);clear x0 x1 x2 x3 x4 x5 x6;clear hb2;have x0:=XB2.out.at_ 0;have x1:=XB2.out.at_ 1;have x2:=XB2.out.at_ 2;have x3:=XB2.out.at_ 3;have x4:=XB2.out.at_ 4;have x5:=XB2.out.at_ 5;have x6:=XB2.out.at_ 6;by_cases hh0:hh=0
   · have q0:(hh != 0)=false:=by simp [hh0]
     have HR1:=hid (HRD.out.trans (if_pos hh0));clear hh0;by_cases k2:kk=2
     · have q2:(kk == 2)=true:=by simpa using k2
       have HE:Hid (r.1=12):=by show _=_;rw [HR1.out,if_pos k2]
       clear k2;go_wp2;go_ret2;exact NextP.bad HE.out (by decide) B2.out
     · have q2:(kk == 2)=false:=by simpa using k2
       have HR2:=hid (HR1.out.trans (if_neg k2));clear k2;by_cases k3:kk=3
       · have q3:(kk == 3)=true:=by simpa using k3
         have HE:Hid (r.1=11):=by show _=_;rw [HR2.out,if_pos k3]
         clear k3;go_wp2;go_ret2;exact NextP.bad HE.out (by decide) B2.out
       · have q3:(kk == 3)=false:=by simpa using k3
         have HR3:=hid (HR2.out.trans (if_neg k3));clear k3;go_upto_region 26 with fail
         obtain ⟨w3,HW3⟩:∃w3,Hid (w2.alloc (.cells #[.int .i64 1,.string (ba D),.string ⟨#[]⟩,.int .i64 tm] 71)=w3):=⟨_,rfl⟩;obtain ⟨b2,HB2⟩:∃b2,Hid (w2.heap.size=b2):=⟨_,rfl⟩;have XN:Hid (Has w3 b2 71 (ndA 1 D [] tm)):=by rw [←HW3.out,←HB2.out];exact Has.fresh _ _ _
         have hb3:Below w2.heap.size w2 w3:=by rw [←HW3.out];exact (Below.refl _ _).alloc (Nat.le_refl _) _
         have XB3:=hid (XB2.out.kept hb3 XB2.out.inside);have B3:Hid (Below w.heap.size w w3):=B2.out.trans (hb3.mono B2.out.size);have T3:=hid (T2.out.on hb3);rw [HW3.out,HB2.out];clear hb3;clear x0 x1 x2 x3 x4 x5 x6;have x0:=XB3.out.at_ 0;have x1:=XB3.out.at_ 1;have x2:=XB3.out.at_ 2;have x3:=XB3.out.at_ 3;have x4:=XB3.out.at_ 4;have x5:=XB3.out.at_ 5;have x6:=XB3.out.at_ 6;have HRT:=HR3;have CWT:Hid (Calls Tryz.prog 133 #[.pointer (some ⟨u,0,none⟩),kS p,.agg (ndA 1 D [] tm)] w3 fun e w'=>NewT w3 (ins p ⟨1,D,[],tm⟩ L) room e w'):=rwith_any T3.out p 1 D [] tm HPL.out (by have:=HLL.out;omega) (HWF.out.short)
         go_wp2_with (first
          | (refine wpList_load_nodeC rfl (.tmp 10) rfl b2 rfl 1 D [] tm XN.out ?_))
         refine CWT.out.mono ?_;rintro e4 w4 ⟨o4,rfl,ht4,hb4⟩;have T4:=hid (ht4.mono B3.out.size);have B4:Hid (Below w.heap.size w w4):=B3.out.trans (hb4.mono B3.out.size);have hu4:=(T3.out.on hb4);have HK:=hid (used_ins HWF.out.srt p ⟨1,D,[],tm⟩);obtain ⟨K,HKD⟩:∃K,Hid (ins p ⟨1,D,[],tm⟩ L=K):=⟨_,rfl⟩;rw [HKD.out] at T4 HRT HK;have HUK:Hid (usedL K≤1000000000):=by have h1:=HK.out;have h2:=HUU.out;have h3:=HR.out;show _≤_;unfold useN at h1;simp only at h1;have:=HDL.out;omega
         have HU4:Hid (w4.drew.cell? ⟨u,1,none⟩=some (.int .i64 (room:Int))):=by obtain ⟨A,n,c,hv⟩:=hu4.view;exact hv.c1
         have CU:=hid (rUsed_any (T4.out.tree.on (Below.refl _ _).drew) HUK.out);have T5:=hid (T4.out.on (Below.refl _ _).drew);have B5:=hid B4.out.drew;clear ht4 hb4 hu4 x0 x1 x2 x3 x4 x5 x6;go_upto_region 35 with fail
         refine wp_region_noPanic ?_;refine wp_region_held_drew (S:=fun W=>W.cell? ⟨u,1,none⟩=some (.int .i64 (room:Int))) (by kernel_rfl) (HU4.out) (fun hS=>?_)
         generalize w4.drew=w5 at *;refine tkH 0 (v:=?_) (by simp only [lkA,lkB];rfl) (by kernel_rfl) (fun _ _ _ h=>h) (by rfl) (by assumption) ?_ ?_
         rotate_left 1
         · intro w hSw
           go_simp
           with_reducible rfl
         simp only [Act.put,siA,siB,siC];refine inI 2 ?_
         iterate 3
          refine stI (v:=?_) (by simp only [lkA,lkB,lkC];rfl) (by kernel_rfl) (fun _ _ _ h=>h) (by rfl) (by assumption) ?_ ?_
          rotate_left 1
          · intro w hSw
            go_simp
            with_reducible rfl
          simp only [Act.put,siA,siB,siC,Nat.reduceAdd]
         refine outI ?_;refine tkH 5 (v:=?_) (by simp only [lkA,lkB,lkC];rfl) (by kernel_rfl) (fun _ _ _ h=>h) (by rfl) (by assumption) ?_ ?_
         rotate_left 1
         · intro w hSw
           have hc:w.cell? ⟨u,1,none⟩=some (.int .i64 (room:Int)):=hSw;go_simp
           with_reducible rfl
         simp only [Act.put,siA,siB,siC];refine wpAnyH_ready (rs:=[1]) (by kernel_rfl) (by simp) ?_
         refine AllReadyH.cons (by simp only [lkA,lkB,lkC];rfl) (fun K hK=>?_) AllReadyH.nil
         go_simp;refine (CU.out).mono ?_;rintro e5 w6 ⟨rfl,rfl⟩;have hz1:=HU4.out;refine hK.out _ _ hz1 (fun hS=>?_)
         clear hK K hS;refine tkH 6 (v:=?_) (by simp only [lkA,lkB,lkC];rfl) (by kernel_rfl) (fun _ _ _ h=>h) (by rfl) (by assumption) ?_ ?_
         rotate_left 1
         · intro w hSw
           go_simp
           with_reducible rfl
         simp only [Act.put,siA,siB,siC];refine wpAnyH_done (by kernel_rfl) ?_ _
         refine NoPanic.normal ?_;by_cases hu:usedL K≤room
         · have hq:¬((room:Int) < ((usedL K:Nat):Int)):=by omega
           have HR5:=hid (HRT.out.trans (if_pos hu));clear hu;go_wp2;go_ret2;exact .inl ⟨by rw [HR5.out],o4,rfl,by rw [HR5.out];exact T5.out,B5.out⟩
         · have hq:(room:Int) < ((usedL K:Nat):Int):=by omega
           have HE:Hid (r.1=7):=by show _=_;rw [HRT.out,if_neg hu]
           clear hu;go_wp2;go_ret2;exact NextP.bad HE.out (by decide) B5.out
   · have q0:(hh != 0)=true:=by simpa using hh0
     have HE:Hid (r.1=hh):=by show _=_;rw [HRD.out,if_neg hh0]
     have HH0:=hid hh0;clear hh0;go_wp2;go_ret2;exact NextP.bad HE.out HH0.out B2.out
end Go.Proofs.YtahkcemdbfjilaaGreatDoor
