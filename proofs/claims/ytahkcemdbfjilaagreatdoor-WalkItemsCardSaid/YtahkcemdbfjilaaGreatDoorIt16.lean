/- Several texts in one. Conditions: those said at each. -/
import Derived.Test.YtahkcemdbfjilaaGreatDoorIt00
import Derived.Test.YtahkcemdbfjilaaGreatDoorIt15
set_option linter.unusedSimpArgs false
set_option linter.unusedVariables false
set_option maxRecDepth 100000
namespace Go.Proofs.YtahkcemdbfjilaaGreatDoor
open Go.RowKit Go.Maps
def restI (done:Bool) (p:By) (n:Nd) (R:Tr):Tr:=if done then del R p else ins p n R
theorem rest_done (p:By) (n:Nd) (x:At) (R:Tr):restI true p n (x :: R)=if x.1=p then restI true p n R else x :: restI true p n R:=del_cons x R p
theorem rest_put (p:By) (n:Nd) (x:At) (R:Tr) (h:cmpL p x.1≤0):restI false p n (x :: R)=(p,n) :: restI true p n (x :: R):=by
 obtain ⟨q,m⟩:=x;show ins p n ((q,m) :: R)=(p,n) :: del ((q,m) :: R) p
 rw [ins,if_pos h]
theorem rest_skip (p:By) (n:Nd) (x:At) (R:Tr) (h:¬cmpL p x.1≤0):restI false p n (x :: R)=x :: restI false p n R:=by
 obtain ⟨q,m⟩:=x;show ins p n ((q,m) :: R)=(q,m) :: ins p n R
 rw [ins,if_neg h]
theorem cmp_ne {p q:By} (h:¬cmpL p q≤0):q≠p:=by rintro rfl;rw [cmpL_self] at h;exact h (Int.le_refl 0)
set_option maxHeartbeats 32000000 in
theorem rwith_any {w:World} {t:Nat} {L:Tr} {room:Nat} (h:TreeR w t L room) (p:By) (nk:Int) (nd nt:By) (nm:Int) (hp:p.length≤4000) (hl:L.length≤99990) (hlp:∀x∈L,x.1.length≤4000) :
 Calls Tryz.prog 133 #[.pointer (some ⟨t,0,none⟩),kS p,.agg (ndA nk nd nt nm)] w fun e w'=>NewT w (ins p ⟨nk,nd,nt,nm⟩ L) room e w':=by
 have hbx:Below w.heap.size w (w.alloc (.cells (ndA nk nd nt nm) 71)):=(Below.refl _ _).alloc (Nat.le_refl _) _;have BX:=hid hbx;obtain ⟨A,n,c,hv0⟩:=h.view;have hv:=hv0.on hbx;have c1:=hv.c1;have HC0:=hid hv.c0;have HL:=hid hv.len;have HR:=hid hv.row;have HT0:=hid (block_lt_of_cell (a:=⟨t,0,none⟩) hv.c0);have hn:n≤99990:=by rw [←hv.len];exact hl
 have HLP:=hid hlp;have HP:=hid hp;have NB:Hid (Has (w.alloc (.cells (ndA nk nd nt nm) 71)) w.heap.size 71 (ndA nk nd nt nm)):=Has.fresh _ _ _;have O0:=hid (OutR.start (w.alloc (.cells (ndA nk nd nt nm) 71)) room);obtain ⟨w0,HW0⟩:∃w0,Hid (w.alloc (.cells (ndA nk nd nt nm) 71)=w0):=⟨_,rfl⟩;have HS0:Hid (w0.heap.size=w.heap.size+1):=by show _=_;rw [←HW0.out];simp
 rw [HW0.out] at BX HC0 HR HT0 NB O0 c1;clear h hv hv0 hl hbx hlp hp;go_enter Tryz.func133,Tryz.ntmps133
 have hw0:=HW0.out;go_wp2;clear c1 hw0;go_loopw [8,9] (fun v8 v9 wr=>∃(k:Nat) (done:Bool) (A':Option Addr) (c' m:Nat) (K:Tr),v8=.bool done∧v9=.int .i64 (k:Int)∧k≤n∧Hid (m≤k+(if done then 1 else 0))∧Hid (OutR w0 wr w0.heap.size room K (.slice A' m c'))∧Hid (K.length=m)∧Hid (K++restI done p ⟨nk,nd,nt,nm⟩ (L.drop k)=ins p ⟨nk,nd,nt,nm⟩ L)) (fun _ v9 _=>n - (intOf v9).toNat)
 case atStart=>exact ⟨0,false,none,0,0,[],rfl,rfl,by omega,(show 0≤0+0 by omega),O0.out,rfl,rfl⟩
 case round =>
  obtain ⟨k,done,A',c',m,K,rfl,rfl,hk,HMK,J,HM,HK⟩:=hrel;have c0:wr.cell? ⟨t,0,none⟩=some (.slice A n c):=(J.out.bl.cell (p:=⟨t,0,none⟩) HT0.out).trans HC0.out;by_cases hlt:k < n
  · have hA9:=HR.out (by omega)
    obtain ⟨g,hA,hat⟩:=hA9;subst hA;have hkl:k < L.length:=by rw [HL.out];exact hlt
    have ha:=hat k hlt;obtain ⟨x,hx⟩:∃x,x=L.getD k at0:=⟨_,rfl⟩;rw [←hx] at ha;have HX:=hid hx;have HT:=hid ha;have HKL:=hid hkl;have hlt':(k:Int) < (n:Int):=by omega
    have h0:(0:Int)≤(k:Int):=by omega
    have w1:IntKind.i64.wrap ((k:Int)+1)=(k:Int)+1:=i64in _ (by omega) (by omega)
    have d0:wr.cell? ⟨g,k*5,none⟩=some (kS x.1):=(ha.on J.out.bl).c0;have HDR:Hid (L.drop k=x :: L.drop (k+1)):=by show _=_;rw [drop_D hkl,←HX.out]
    have CC:Hid (∀W,Calls Tryz.prog 176 #[kS p,kS x.1] W fun e w'=>e=.returned (.int .i64 (cmpL p x.1))∧W=w'):=fun W=>by
     have hxl:=HLP.out x (by rw [hx];exact memD hkl)
     have:=Rf.rcmp_any (ba p) (ba x.1) W (by rw [ba_size];have:=HP.out;omega) (by rw [ba_size];omega)
     rw [tl_ba,tl_ba] at this;exact this
    have SDT:Hid (RdT t (some ⟨g,0,none⟩) n c g k x w0):=⟨HC0.out,HT.out⟩;clear hx ha hkl hat
    cases done with
    | true =>
     have hmk:m≤k+1:=HMK.out;have HKD:Hid (K++(if x.1=p then restI true p ⟨nk,nd,nt,nm⟩ (L.drop (k+1)) else x :: restI true p ⟨nk,nd,nt,nm⟩ (L.drop (k+1)))=ins p ⟨nk,nd,nt,nm⟩ L):=by
      show _=_;rw [←rest_done,←HDR.out];exact HK.out
     by_cases hxp:x.1=p
     · have q:((ba x.1).toList == (ba p).toList)=true:=by rw [eqS,decide_eq_true hxp]
       have q2:((ba x.1).toList != (ba p).toList)=false:=by rw [bne,q];rfl
       have HN2:Hid (K++restI true p ⟨nk,nd,nt,nm⟩ (L.drop (k+1))=ins p ⟨nk,nd,nt,nm⟩ L):=by have:=HKD.out;rw [if_pos hxp] at this;exact this
       clear hxp;go_wp2;go_roundw
       case rel=>exact ⟨k+1,true,A',c',m,K,rfl,by go_num,by omega,(show m≤k+1+1 by omega),J.out,HM.out,HN2.out⟩
       case measure=>simp [intOf];omega
     · have q:((ba x.1).toList == (ba p).toList)=false:=by rw [eqS,decide_eq_false hxp]
       have q2:((ba x.1).toList != (ba p).toList)=true:=by rw [bne,q];rfl
       have HN2:Hid ((K++[x])++restI true p ⟨nk,nd,nt,nm⟩ (L.drop (k+1))=ins p ⟨nk,nd,nt,nm⟩ L):=by have:=HKD.out;rw [if_neg hxp] at this;show _=_;rw [List.append_assoc];exact this
       have SD0:=SDT;clear hxp;obtain ⟨v5,w5,hr5,ho5,hh5,hb5,A5,c5,hv5⟩:=J.out.drew.app x (by rw [HM.out];omega)
       subst hv5;have R5:=hid hr5;have O5:=hid ho5;have H5:=hid hh5;have B5:=hid hb5;have SD3:Hid (RdT t (some ⟨g,0,none⟩) n c g k x wr.drew):=SD0.out.on J.out.bl.drew;have OD:=hid J.out.drew;clear hr5 ho5 hh5 hb5;go_wp2;refine wp_region_noPanic ?_;refine wp_region_held_drew (S:=RdT t (some ⟨g,0,none⟩) n c g k x) (by kernel_rfl) (SD3.out) (fun hS=>?_)
       generalize wr.drew=w3 at *;refine inI 0 ?_
       iterate 4
        refine stI (v:=?_) (by simp only [lkA,lkB,lkC];rfl) (by kernel_rfl) (fun _ _ _ h=>h) (by rfl) (by assumption) ?_ ?_
        rotate_left 1
        · intro w hSw
          go_simp
          with_reducible rfl
        simp only [Act.put,siA,siB,siC,Nat.reduceAdd]
       refine outI ?_;refine inI 5 ?_
       iterate 3
        refine stI (v:=?_) (by simp only [lkA,lkB,lkC];rfl) (by kernel_rfl) (fun _ _ _ h=>h) (by rfl) (by assumption) ?_ ?_
        rotate_left 1
        · intro w hSw
          go_simp
          with_reducible rfl
        simp only [Act.put,siA,siB,siC,Nat.reduceAdd]
       refine outI ?_;refine tkH 8 (v:=?_) (by simp only [lkA,lkB,lkC];rfl) (by kernel_rfl) (fun _ _ _ h=>h) (by rfl) (by assumption) ?_ ?_
       rotate_left 1
       · intro w hSw
         have hc:=hSw.c0;go_simp
         with_reducible rfl
       simp only [Act.put,siA,siB,siC];refine inI 9 ?_
       iterate 2
        refine stI (v:=?_) (by simp only [lkA,lkB,lkC];rfl) (by kernel_rfl) (fun _ _ _ h=>h) (by rfl) (by assumption) ?_ ?_
        rotate_left 1
        · intro w hSw
          go_simp
          with_reducible rfl
        simp only [Act.put,siA,siB,siC,Nat.reduceAdd]
       refine outI ?_;refine' wpAnyH_take (i:=11) (v:=_) (by simp only [lkA,lkB,lkC];rfl) (by kernel_rfl) (by kernel_rfl) (by kernel_rfl) (fun _ _ _ h=>h) (yields_loadA (by rfl) 73 (.tmp 72) rfl g (k*5) rfl (atCells x) (fun w hSw=>hSw.at_.load)) (by assumption) ?_
       simp only [Act.put,siA,siB,siC];refine wpAnyH_ready (rs:=[4,12]) (by kernel_rfl) (by simp) ?_
       refine AllReadyH.cons (by simp only [lkA,lkB,lkC];rfl) (fun K hK=>?_) (AllReadyH.cons (by simp only [lkA,lkB,lkC];rfl) (fun K hK=>?_) (AllReadyH.nil))
       · have hc:=OD.out.has.at_ 0
         go_simp;refine hK.out _ _ SD3.out (fun hS=>?_)
         clear hK K;refine wpAnyH_ready (rs:=[12]) (by kernel_rfl) (by simp) ?_
         refine AllReadyH.cons (by simp only [lkA,lkB,lkC];rfl) (fun K hK=>?_) (AllReadyH.nil)
         refine step_build_at (by rfl) (.tmp 73) rfl x rfl ?_
         refine hK.out _ _ (SD3.out.on ((Below.refl _ _).alloc (Nat.le_refl _) _)) (fun hS=>?_)
         clear hK K;refine wpAnyH_ready (rs:=[13]) (by kernel_rfl) (by simp) ?_
         refine AllReadyH.cons (by simp only [lkA,lkB,lkC];rfl) (fun K hK=>?_) (AllReadyH.nil)
         refine step_append_run (by rfl) (.tmp 66) (.tmp 74) 64 64 rfl (.slice A' m c') (.slice (some ⟨w3.heap.size,0,none⟩) 1 1) rfl rfl R5.out ?_
         refine hK.out _ _ (SD0.out.on B5.out) (fun hS=>?_)
         clear hK K;refine inI 14 ?_
         iterate 2
          refine stI (v:=?_) (by simp only [lkA,lkB,lkC];rfl) (by kernel_rfl) (fun _ _ _ h=>h) (by rfl) (by assumption) ?_ ?_
          rotate_left 1
          · intro w hSw
            go_simp
            with_reducible rfl
          simp only [Act.put,siA,siB,siC,Nat.reduceAdd]
         refine outI ?_;refine wpAnyH_ready (rs:=[16]) (by kernel_rfl) (by simp) ?_
         refine AllReadyH.cons (by simp only [lkA,lkB,lkC];rfl) (fun K hK=>?_) (AllReadyH.nil)
         have hc5:=H5.out.at_ 0;have hf5:=H5.out.free 0;go_simp;refine hK.out _ _ (SD0.out.on O5.out.bl) (fun hS=>?_)
         clear hK K hc5 hf5;refine wpAnyH_done (by kernel_rfl) ?_ _
         refine NoPanic.normal ?_;go_wp2;go_roundw
         case rel =>
          refine ⟨k+1,true,A5,c5,m+1,K++[x],rfl,by go_num,by omega,(show m+1≤k+1+1 by omega),?_,?_,HN2.out⟩
          · rw [←HM.out];exact O5.out
          · show _=_;rw [List.length_append,HM.out];rfl
         case measure=>simp [intOf];omega
       · refine step_build_at (by rfl) (.tmp 73) rfl x rfl ?_
         refine hK.out _ _ (SD3.out.on ((Below.refl _ _).alloc (Nat.le_refl _) _)) (fun hS=>?_)
         clear hK K;refine wpAnyH_ready (rs:=[4]) (by kernel_rfl) (by simp) ?_
         refine AllReadyH.cons (by simp only [lkA,lkB,lkC];rfl) (fun K hK=>?_) (AllReadyH.nil)
         have hc:=(OD.out.has.more (.cells (atCells x) 73)).at_ 0;go_simp;refine hK.out _ _ (SD3.out.on ((Below.refl _ _).alloc (Nat.le_refl _) _)) (fun hS=>?_)
         clear hK K;refine wpAnyH_ready (rs:=[13]) (by kernel_rfl) (by simp) ?_
         refine AllReadyH.cons (by simp only [lkA,lkB,lkC];rfl) (fun K hK=>?_) (AllReadyH.nil)
         refine step_append_run (by rfl) (.tmp 66) (.tmp 74) 64 64 rfl (.slice A' m c') (.slice (some ⟨w3.heap.size,0,none⟩) 1 1) rfl rfl R5.out ?_
         refine hK.out _ _ (SD0.out.on B5.out) (fun hS=>?_)
         clear hK K;refine inI 14 ?_
         iterate 2
          refine stI (v:=?_) (by simp only [lkA,lkB,lkC];rfl) (by kernel_rfl) (fun _ _ _ h=>h) (by rfl) (by assumption) ?_ ?_
          rotate_left 1
          · intro w hSw
            go_simp
            with_reducible rfl
          simp only [Act.put,siA,siB,siC,Nat.reduceAdd]
         refine outI ?_;refine wpAnyH_ready (rs:=[16]) (by kernel_rfl) (by simp) ?_
         refine AllReadyH.cons (by simp only [lkA,lkB,lkC];rfl) (fun K hK=>?_) (AllReadyH.nil)
         have hc5:=H5.out.at_ 0;have hf5:=H5.out.free 0;go_simp;refine hK.out _ _ (SD0.out.on O5.out.bl) (fun hS=>?_)
         clear hK K hc5 hf5;refine wpAnyH_done (by kernel_rfl) ?_ _
         refine NoPanic.normal ?_;go_wp2;go_roundw
         case rel =>
          refine ⟨k+1,true,A5,c5,m+1,K++[x],rfl,by go_num,by omega,(show m+1≤k+1+1 by omega),?_,?_,HN2.out⟩
          · rw [←HM.out];exact O5.out
          · show _=_;rw [List.length_append,HM.out];rfl
         case measure=>simp [intOf];omega
    | false =>
     have hmk:m≤k:=HMK.out;by_cases hc:cmpL p x.1≤0
     · have HKD:Hid ((K++[(p,⟨nk,nd,nt,nm⟩)])++(if x.1=p then restI true p ⟨nk,nd,nt,nm⟩ (L.drop (k+1)) else x :: restI true p ⟨nk,nd,nt,nm⟩ (L.drop (k+1)))=ins p ⟨nk,nd,nt,nm⟩ L):=by
        show _=_;rw [←rest_done,List.append_assoc,List.singleton_append,←rest_put p _ x _ hc,←HDR.out];exact HK.out
       go_wp2_with fail
       refine (CC.out _).mono ?_;rintro e8 w8 ⟨rfl,rfl⟩;have SD0:Hid (RdN w.heap.size (ndA nk nd nt nm) w0):=⟨NB.out⟩;obtain ⟨v5,w5,hr5,ho5,hh5,hb5,A5,c5,hv5⟩:=J.out.drew.app (p,⟨nk,nd,nt,nm⟩) (by rw [HM.out];omega)
       subst hv5;have R5:=hid hr5;have O5:=hid ho5;have H5:=hid hh5;have B5:=hid hb5;have SD3:Hid (RdN w.heap.size (ndA nk nd nt nm) wr.drew):=SD0.out.on J.out.bl.drew;have OD:=hid J.out.drew;clear hr5 ho5 hh5 hb5;go_wp2;refine wp_region_noPanic ?_;refine wp_region_held_drew (S:=RdN w.heap.size (ndA nk nd nt nm)) (by kernel_rfl) (SD3.out) (fun hS=>?_)
       generalize wr.drew=w3 at *;refine inI 0 ?_
       iterate 4
        refine stI (v:=?_) (by simp only [lkA,lkB,lkC];rfl) (by kernel_rfl) (fun _ _ _ h=>h) (by rfl) (by assumption) ?_ ?_
        rotate_left 1
        · intro w hSw
          go_simp
          with_reducible rfl
        simp only [Act.put,siA,siB,siC,Nat.reduceAdd]
       refine outI ?_;refine tkH 5 (v:=?_) (by simp only [lkA,lkB,lkC];rfl) (by kernel_rfl) (fun _ _ _ h=>h) (by rfl) (by assumption) ?_ ?_
       rotate_left 1
       · intro w hSw
         go_simp
         with_reducible rfl
       simp only [Act.put,siA,siB,siC];refine' wpAnyH_take (i:=6) (v:=_) (by simp only [lkA,lkB,lkC];rfl) (by kernel_rfl) (by kernel_rfl) (by kernel_rfl) (fun _ _ _ h=>h) (yields_loadA (by rfl) 71 (.tmp 5) rfl w.heap.size 0 rfl (ndA nk nd nt nm) (fun w hSw=>load_nodeC hSw.h)) (by assumption) ?_
       simp only [Act.put,siA,siB,siC];refine tkH 7 (v:=?_) (by simp only [lkA,lkB,lkC];rfl) (by kernel_rfl) (fun _ _ _ h=>h) (by rfl) (by assumption) ?_ ?_
       rotate_left 1
       · intro w hSw
         go_simp
         with_reducible rfl
       simp only [Act.put,siA,siB,siC];refine wpAnyH_ready (rs:=[4,8]) (by kernel_rfl) (by simp) ?_
       refine AllReadyH.cons (by simp only [lkA,lkB,lkC];rfl) (fun K hK=>?_) (AllReadyH.cons (by simp only [lkA,lkB,lkC];rfl) (fun K hK=>?_) (AllReadyH.nil))
       · have hc:=OD.out.has.at_ 0
         go_simp;refine hK.out _ _ SD3.out (fun hS=>?_)
         clear hK K;refine wpAnyH_ready (rs:=[8]) (by kernel_rfl) (by simp) ?_
         refine AllReadyH.cons (by simp only [lkA,lkB,lkC];rfl) (fun K hK=>?_) (AllReadyH.nil)
         refine step_build_at (by rfl) (.tmp 47) rfl (p,⟨nk,nd,nt,nm⟩) rfl ?_
         refine hK.out _ _ (SD3.out.on ((Below.refl _ _).alloc (Nat.le_refl _) _)) (fun hS=>?_)
         clear hK K;refine wpAnyH_ready (rs:=[9]) (by kernel_rfl) (by simp) ?_
         refine AllReadyH.cons (by simp only [lkA,lkB,lkC];rfl) (fun K hK=>?_) (AllReadyH.nil)
         refine step_append_run (by rfl) (.tmp 44) (.tmp 48) 64 64 rfl (.slice A' m c') (.slice (some ⟨w3.heap.size,0,none⟩) 1 1) rfl rfl R5.out ?_
         refine hK.out _ _ (SD0.out.on B5.out) (fun hS=>?_)
         clear hK K;refine inI 10 ?_
         iterate 2
          refine stI (v:=?_) (by simp only [lkA,lkB,lkC];rfl) (by kernel_rfl) (fun _ _ _ h=>h) (by rfl) (by assumption) ?_ ?_
          rotate_left 1
          · intro w hSw
            go_simp
            with_reducible rfl
          simp only [Act.put,siA,siB,siC,Nat.reduceAdd]
         refine outI ?_;refine wpAnyH_ready (rs:=[12]) (by kernel_rfl) (by simp) ?_
         refine AllReadyH.cons (by simp only [lkA,lkB,lkC];rfl) (fun K hK=>?_) (AllReadyH.nil)
         have hc5:=H5.out.at_ 0;have hf5:=H5.out.free 0;go_simp;refine hK.out _ _ (SD0.out.on O5.out.bl) (fun hS=>?_)
         clear hK K hc5 hf5;refine wpAnyH_done (by kernel_rfl) ?_ _
         refine NoPanic.normal ?_;obtain ⟨wq,HWQ⟩:∃wq,Hid (w5.setCell ⟨w0.heap.size,0,none⟩ (.slice A5 (K.length+1) c5)=wq):=⟨_,rfl⟩;have J6:Hid (OutR w0 wq w0.heap.size room (K++[(p,⟨nk,nd,nt,nm⟩)]) (.slice A5 (m+1) c5)):=by have:=O5.out;rw [HWQ.out,HM.out] at this;exact this
         have HM6:Hid ((K++[(p,(⟨nk,nd,nt,nm⟩:Nd))]).length=m+1):=by show _=_;rw [List.length_append,HM.out];rfl
         rw [HWQ.out];obtain ⟨K6,HK6⟩:∃K6,Hid (K++[(p,(⟨nk,nd,nt,nm⟩:Nd))]=K6):=⟨_,rfl⟩;have HKD6:=HKD.out;rw [HK6.out] at J6 HM6 HKD6;have c0q:wq.cell? ⟨t,0,none⟩=some (.slice (some ⟨g,0,none⟩) n c):=(J6.out.bl.cell (p:=⟨t,0,none⟩) HT0.out).trans HC0.out;have d0q:wq.cell? ⟨g,k*5,none⟩=some (kS x.1):=(HT.out.on J6.out.bl).c0;clear c0 d0;by_cases hxp:x.1=p
         · have q:((ba x.1).toList == (ba p).toList)=true:=by rw [eqS,decide_eq_true hxp]
           have q2:((ba x.1).toList != (ba p).toList)=false:=by rw [bne,q];rfl
           have HN2:Hid (K6++restI true p ⟨nk,nd,nt,nm⟩ (L.drop (k+1))=ins p ⟨nk,nd,nt,nm⟩ L):=by rw [if_pos hxp] at HKD6;exact HKD6
           clear hxp HKD6;go_wp2;go_roundw
           case rel=>exact ⟨k+1,true,A5,c5,m+1,K6,rfl,by go_num,by omega,(show m+1≤k+1+1 by omega),J6.out,HM6.out,HN2.out⟩
           case measure=>simp [intOf];omega
         · have q:((ba x.1).toList == (ba p).toList)=false:=by rw [eqS,decide_eq_false hxp]
           have q2:((ba x.1).toList != (ba p).toList)=true:=by rw [bne,q];rfl
           have HN2:Hid (K6++[x]++restI true p ⟨nk,nd,nt,nm⟩ (L.drop (k+1))=ins p ⟨nk,nd,nt,nm⟩ L):=by rw [if_neg hxp] at HKD6;show _=_;rw [List.append_assoc];exact HKD6
           have SE0:=SDT;clear hxp HKD6;obtain ⟨v7,w7,hr7,ho7,hh7,hb7,A7,c7,hv7⟩:=J6.out.drew.app x (by rw [HM6.out];omega)
           subst hv7;have R7:=hid hr7;have O7:=hid ho7;have H7:=hid hh7;have B7:=hid hb7;have SE3:Hid (RdT t (some ⟨g,0,none⟩) n c g k x wq.drew):=SE0.out.on J6.out.bl.drew;have OE:=hid J6.out.drew;clear hr7 ho7 hh7 hb7;go_wp2;refine wp_region_noPanic ?_;refine wp_region_held_drew (S:=RdT t (some ⟨g,0,none⟩) n c g k x) (by kernel_rfl) (SE3.out) (fun hS=>?_)
           generalize wq.drew=w4 at *;refine inI 0 ?_
           iterate 4
            refine stI (v:=?_) (by simp only [lkA,lkB,lkC];rfl) (by kernel_rfl) (fun _ _ _ h=>h) (by rfl) (by assumption) ?_ ?_
            rotate_left 1
            · intro w hSw
              go_simp
              with_reducible rfl
            simp only [Act.put,siA,siB,siC,Nat.reduceAdd]
           refine outI ?_;refine inI 5 ?_
           iterate 3
            refine stI (v:=?_) (by simp only [lkA,lkB,lkC];rfl) (by kernel_rfl) (fun _ _ _ h=>h) (by rfl) (by assumption) ?_ ?_
            rotate_left 1
            · intro w hSw
              go_simp
              with_reducible rfl
            simp only [Act.put,siA,siB,siC,Nat.reduceAdd]
           refine outI ?_;refine tkH 8 (v:=?_) (by simp only [lkA,lkB,lkC];rfl) (by kernel_rfl) (fun _ _ _ h=>h) (by rfl) (by assumption) ?_ ?_
           rotate_left 1
           · intro w hSw
             have hc:=hSw.c0;go_simp
             with_reducible rfl
           simp only [Act.put,siA,siB,siC];refine inI 9 ?_
           iterate 2
            refine stI (v:=?_) (by simp only [lkA,lkB,lkC];rfl) (by kernel_rfl) (fun _ _ _ h=>h) (by rfl) (by assumption) ?_ ?_
            rotate_left 1
            · intro w hSw
              go_simp
              with_reducible rfl
            simp only [Act.put,siA,siB,siC,Nat.reduceAdd]
           refine outI ?_;refine' wpAnyH_take (i:=11) (v:=_) (by simp only [lkA,lkB,lkC];rfl) (by kernel_rfl) (by kernel_rfl) (by kernel_rfl) (fun _ _ _ h=>h) (yields_loadA (by rfl) 73 (.tmp 72) rfl g (k*5) rfl (atCells x) (fun w hSw=>hSw.at_.load)) (by assumption) ?_
           simp only [Act.put,siA,siB,siC];refine wpAnyH_ready (rs:=[4,12]) (by kernel_rfl) (by simp) ?_
           refine AllReadyH.cons (by simp only [lkA,lkB,lkC];rfl) (fun K hK=>?_) (AllReadyH.cons (by simp only [lkA,lkB,lkC];rfl) (fun K hK=>?_) (AllReadyH.nil))
           · have hc:=OE.out.has.at_ 0
             go_simp;refine hK.out _ _ SE3.out (fun hS=>?_)
             clear hK K;refine wpAnyH_ready (rs:=[12]) (by kernel_rfl) (by simp) ?_
             refine AllReadyH.cons (by simp only [lkA,lkB,lkC];rfl) (fun K hK=>?_) (AllReadyH.nil)
             refine step_build_at (by rfl) (.tmp 73) rfl x rfl ?_
             refine hK.out _ _ (SE3.out.on ((Below.refl _ _).alloc (Nat.le_refl _) _)) (fun hS=>?_)
             clear hK K;refine wpAnyH_ready (rs:=[13]) (by kernel_rfl) (by simp) ?_
             refine AllReadyH.cons (by simp only [lkA,lkB,lkC];rfl) (fun K hK=>?_) (AllReadyH.nil)
             refine step_append_run (by rfl) (.tmp 66) (.tmp 74) 64 64 rfl (.slice A5 (m+1) c5) (.slice (some ⟨w4.heap.size,0,none⟩) 1 1) rfl rfl R7.out ?_
             refine hK.out _ _ (SE0.out.on B7.out) (fun hS=>?_)
             clear hK K;refine inI 14 ?_
             iterate 2
              refine stI (v:=?_) (by simp only [lkA,lkB,lkC];rfl) (by kernel_rfl) (fun _ _ _ h=>h) (by rfl) (by assumption) ?_ ?_
              rotate_left 1
              · intro w hSw
                go_simp
                with_reducible rfl
              simp only [Act.put,siA,siB,siC,Nat.reduceAdd]
             refine outI ?_;refine wpAnyH_ready (rs:=[16]) (by kernel_rfl) (by simp) ?_
             refine AllReadyH.cons (by simp only [lkA,lkB,lkC];rfl) (fun K hK=>?_) (AllReadyH.nil)
             have hc5:=H7.out.at_ 0;have hf5:=H7.out.free 0;go_simp;refine hK.out _ _ (SE0.out.on O7.out.bl) (fun hS=>?_)
             clear hK K hc5 hf5;refine wpAnyH_done (by kernel_rfl) ?_ _
             refine NoPanic.normal ?_;go_wp2;go_roundw
             case rel =>
              refine ⟨k+1,true,A7,c7,m+2,K6++[x],rfl,by go_num,by omega,(show m+2≤k+1+1 by omega),?_,?_,HN2.out⟩
              · rw [show m+2=m+1+1 from rfl,←HM6.out];exact O7.out
              · show _=_;rw [List.length_append,HM6.out];rfl
             case measure=>simp [intOf];omega
           · refine step_build_at (by rfl) (.tmp 73) rfl x rfl ?_
             refine hK.out _ _ (SE3.out.on ((Below.refl _ _).alloc (Nat.le_refl _) _)) (fun hS=>?_)
             clear hK K;refine wpAnyH_ready (rs:=[4]) (by kernel_rfl) (by simp) ?_
             refine AllReadyH.cons (by simp only [lkA,lkB,lkC];rfl) (fun K hK=>?_) (AllReadyH.nil)
             have hc:=(OE.out.has.more (.cells (atCells x) 73)).at_ 0;go_simp;refine hK.out _ _ (SE3.out.on ((Below.refl _ _).alloc (Nat.le_refl _) _)) (fun hS=>?_)
             clear hK K;refine wpAnyH_ready (rs:=[13]) (by kernel_rfl) (by simp) ?_
             refine AllReadyH.cons (by simp only [lkA,lkB,lkC];rfl) (fun K hK=>?_) (AllReadyH.nil)
             refine step_append_run (by rfl) (.tmp 66) (.tmp 74) 64 64 rfl (.slice A5 (m+1) c5) (.slice (some ⟨w4.heap.size,0,none⟩) 1 1) rfl rfl R7.out ?_
             refine hK.out _ _ (SE0.out.on B7.out) (fun hS=>?_)
             clear hK K;refine inI 14 ?_
             iterate 2
              refine stI (v:=?_) (by simp only [lkA,lkB,lkC];rfl) (by kernel_rfl) (fun _ _ _ h=>h) (by rfl) (by assumption) ?_ ?_
              rotate_left 1
              · intro w hSw
                go_simp
                with_reducible rfl
              simp only [Act.put,siA,siB,siC,Nat.reduceAdd]
             refine outI ?_;refine wpAnyH_ready (rs:=[16]) (by kernel_rfl) (by simp) ?_
             refine AllReadyH.cons (by simp only [lkA,lkB,lkC];rfl) (fun K hK=>?_) (AllReadyH.nil)
             have hc5:=H7.out.at_ 0;have hf5:=H7.out.free 0;go_simp;refine hK.out _ _ (SE0.out.on O7.out.bl) (fun hS=>?_)
             clear hK K hc5 hf5;refine wpAnyH_done (by kernel_rfl) ?_ _
             refine NoPanic.normal ?_;go_wp2;go_roundw
             case rel =>
              refine ⟨k+1,true,A7,c7,m+2,K6++[x],rfl,by go_num,by omega,(show m+2≤k+1+1 by omega),?_,?_,HN2.out⟩
              · rw [show m+2=m+1+1 from rfl,←HM6.out];exact O7.out
              · show _=_;rw [List.length_append,HM6.out];rfl
             case measure=>simp [intOf];omega
       · refine step_build_at (by rfl) (.tmp 47) rfl (p,⟨nk,nd,nt,nm⟩) rfl ?_
         refine hK.out _ _ (SD3.out.on ((Below.refl _ _).alloc (Nat.le_refl _) _)) (fun hS=>?_)
         clear hK K;refine wpAnyH_ready (rs:=[4]) (by kernel_rfl) (by simp) ?_
         refine AllReadyH.cons (by simp only [lkA,lkB,lkC];rfl) (fun K hK=>?_) (AllReadyH.nil)
         have hc:=(OD.out.has.more (.cells (atCells (p,⟨nk,nd,nt,nm⟩)) 73)).at_ 0;go_simp;refine hK.out _ _ (SD3.out.on ((Below.refl _ _).alloc (Nat.le_refl _) _)) (fun hS=>?_)
         clear hK K;refine wpAnyH_ready (rs:=[9]) (by kernel_rfl) (by simp) ?_
         refine AllReadyH.cons (by simp only [lkA,lkB,lkC];rfl) (fun K hK=>?_) (AllReadyH.nil)
         refine step_append_run (by rfl) (.tmp 44) (.tmp 48) 64 64 rfl (.slice A' m c') (.slice (some ⟨w3.heap.size,0,none⟩) 1 1) rfl rfl R5.out ?_
         refine hK.out _ _ (SD0.out.on B5.out) (fun hS=>?_)
         clear hK K;refine inI 10 ?_
         iterate 2
          refine stI (v:=?_) (by simp only [lkA,lkB,lkC];rfl) (by kernel_rfl) (fun _ _ _ h=>h) (by rfl) (by assumption) ?_ ?_
          rotate_left 1
          · intro w hSw
            go_simp
            with_reducible rfl
          simp only [Act.put,siA,siB,siC,Nat.reduceAdd]
         refine outI ?_;refine wpAnyH_ready (rs:=[12]) (by kernel_rfl) (by simp) ?_
         refine AllReadyH.cons (by simp only [lkA,lkB,lkC];rfl) (fun K hK=>?_) (AllReadyH.nil)
         have hc5:=H5.out.at_ 0;have hf5:=H5.out.free 0;go_simp;refine hK.out _ _ (SD0.out.on O5.out.bl) (fun hS=>?_)
         clear hK K hc5 hf5;refine wpAnyH_done (by kernel_rfl) ?_ _
         refine NoPanic.normal ?_;obtain ⟨wq,HWQ⟩:∃wq,Hid (w5.setCell ⟨w0.heap.size,0,none⟩ (.slice A5 (K.length+1) c5)=wq):=⟨_,rfl⟩;have J6:Hid (OutR w0 wq w0.heap.size room (K++[(p,⟨nk,nd,nt,nm⟩)]) (.slice A5 (m+1) c5)):=by have:=O5.out;rw [HWQ.out,HM.out] at this;exact this
         have HM6:Hid ((K++[(p,(⟨nk,nd,nt,nm⟩:Nd))]).length=m+1):=by show _=_;rw [List.length_append,HM.out];rfl
         rw [HWQ.out];obtain ⟨K6,HK6⟩:∃K6,Hid (K++[(p,(⟨nk,nd,nt,nm⟩:Nd))]=K6):=⟨_,rfl⟩;have HKD6:=HKD.out;rw [HK6.out] at J6 HM6 HKD6;have c0q:wq.cell? ⟨t,0,none⟩=some (.slice (some ⟨g,0,none⟩) n c):=(J6.out.bl.cell (p:=⟨t,0,none⟩) HT0.out).trans HC0.out;have d0q:wq.cell? ⟨g,k*5,none⟩=some (kS x.1):=(HT.out.on J6.out.bl).c0;clear c0 d0;by_cases hxp:x.1=p
         · have q:((ba x.1).toList == (ba p).toList)=true:=by rw [eqS,decide_eq_true hxp]
           have q2:((ba x.1).toList != (ba p).toList)=false:=by rw [bne,q];rfl
           have HN2:Hid (K6++restI true p ⟨nk,nd,nt,nm⟩ (L.drop (k+1))=ins p ⟨nk,nd,nt,nm⟩ L):=by rw [if_pos hxp] at HKD6;exact HKD6
           clear hxp HKD6;go_wp2;go_roundw
           case rel=>exact ⟨k+1,true,A5,c5,m+1,K6,rfl,by go_num,by omega,(show m+1≤k+1+1 by omega),J6.out,HM6.out,HN2.out⟩
           case measure=>simp [intOf];omega
         · have q:((ba x.1).toList == (ba p).toList)=false:=by rw [eqS,decide_eq_false hxp]
           have q2:((ba x.1).toList != (ba p).toList)=true:=by rw [bne,q];rfl
           have HN2:Hid (K6++[x]++restI true p ⟨nk,nd,nt,nm⟩ (L.drop (k+1))=ins p ⟨nk,nd,nt,nm⟩ L):=by rw [if_neg hxp] at HKD6;show _=_;rw [List.append_assoc];exact HKD6
           have SE0:=SDT;clear hxp HKD6;obtain ⟨v7,w7,hr7,ho7,hh7,hb7,A7,c7,hv7⟩:=J6.out.drew.app x (by rw [HM6.out];omega)
           subst hv7;have R7:=hid hr7;have O7:=hid ho7;have H7:=hid hh7;have B7:=hid hb7;have SE3:Hid (RdT t (some ⟨g,0,none⟩) n c g k x wq.drew):=SE0.out.on J6.out.bl.drew;have OE:=hid J6.out.drew;clear hr7 ho7 hh7 hb7;go_wp2;refine wp_region_noPanic ?_;refine wp_region_held_drew (S:=RdT t (some ⟨g,0,none⟩) n c g k x) (by kernel_rfl) (SE3.out) (fun hS=>?_)
           generalize wq.drew=w4 at *;refine inI 0 ?_
           iterate 4
            refine stI (v:=?_) (by simp only [lkA,lkB,lkC];rfl) (by kernel_rfl) (fun _ _ _ h=>h) (by rfl) (by assumption) ?_ ?_
            rotate_left 1
            · intro w hSw
              go_simp
              with_reducible rfl
            simp only [Act.put,siA,siB,siC,Nat.reduceAdd]
           refine outI ?_;refine inI 5 ?_
           iterate 3
            refine stI (v:=?_) (by simp only [lkA,lkB,lkC];rfl) (by kernel_rfl) (fun _ _ _ h=>h) (by rfl) (by assumption) ?_ ?_
            rotate_left 1
            · intro w hSw
              go_simp
              with_reducible rfl
            simp only [Act.put,siA,siB,siC,Nat.reduceAdd]
           refine outI ?_;refine tkH 8 (v:=?_) (by simp only [lkA,lkB,lkC];rfl) (by kernel_rfl) (fun _ _ _ h=>h) (by rfl) (by assumption) ?_ ?_
           rotate_left 1
           · intro w hSw
             have hc:=hSw.c0;go_simp
             with_reducible rfl
           simp only [Act.put,siA,siB,siC];refine inI 9 ?_
           iterate 2
            refine stI (v:=?_) (by simp only [lkA,lkB,lkC];rfl) (by kernel_rfl) (fun _ _ _ h=>h) (by rfl) (by assumption) ?_ ?_
            rotate_left 1
            · intro w hSw
              go_simp
              with_reducible rfl
            simp only [Act.put,siA,siB,siC,Nat.reduceAdd]
           refine outI ?_;refine' wpAnyH_take (i:=11) (v:=_) (by simp only [lkA,lkB,lkC];rfl) (by kernel_rfl) (by kernel_rfl) (by kernel_rfl) (fun _ _ _ h=>h) (yields_loadA (by rfl) 73 (.tmp 72) rfl g (k*5) rfl (atCells x) (fun w hSw=>hSw.at_.load)) (by assumption) ?_
           simp only [Act.put,siA,siB,siC];refine wpAnyH_ready (rs:=[4,12]) (by kernel_rfl) (by simp) ?_
           refine AllReadyH.cons (by simp only [lkA,lkB,lkC];rfl) (fun K hK=>?_) (AllReadyH.cons (by simp only [lkA,lkB,lkC];rfl) (fun K hK=>?_) (AllReadyH.nil))
           · have hc:=OE.out.has.at_ 0
             go_simp;refine hK.out _ _ SE3.out (fun hS=>?_)
             clear hK K;refine wpAnyH_ready (rs:=[12]) (by kernel_rfl) (by simp) ?_
             refine AllReadyH.cons (by simp only [lkA,lkB,lkC];rfl) (fun K hK=>?_) (AllReadyH.nil)
             refine step_build_at (by rfl) (.tmp 73) rfl x rfl ?_
             refine hK.out _ _ (SE3.out.on ((Below.refl _ _).alloc (Nat.le_refl _) _)) (fun hS=>?_)
             clear hK K;refine wpAnyH_ready (rs:=[13]) (by kernel_rfl) (by simp) ?_
             refine AllReadyH.cons (by simp only [lkA,lkB,lkC];rfl) (fun K hK=>?_) (AllReadyH.nil)
             refine step_append_run (by rfl) (.tmp 66) (.tmp 74) 64 64 rfl (.slice A5 (m+1) c5) (.slice (some ⟨w4.heap.size,0,none⟩) 1 1) rfl rfl R7.out ?_
             refine hK.out _ _ (SE0.out.on B7.out) (fun hS=>?_)
             clear hK K;refine inI 14 ?_
             iterate 2
              refine stI (v:=?_) (by simp only [lkA,lkB,lkC];rfl) (by kernel_rfl) (fun _ _ _ h=>h) (by rfl) (by assumption) ?_ ?_
              rotate_left 1
              · intro w hSw
                go_simp
                with_reducible rfl
              simp only [Act.put,siA,siB,siC,Nat.reduceAdd]
             refine outI ?_;refine wpAnyH_ready (rs:=[16]) (by kernel_rfl) (by simp) ?_
             refine AllReadyH.cons (by simp only [lkA,lkB,lkC];rfl) (fun K hK=>?_) (AllReadyH.nil)
             have hc5:=H7.out.at_ 0;have hf5:=H7.out.free 0;go_simp;refine hK.out _ _ (SE0.out.on O7.out.bl) (fun hS=>?_)
             clear hK K hc5 hf5;refine wpAnyH_done (by kernel_rfl) ?_ _
             refine NoPanic.normal ?_;go_wp2;go_roundw
             case rel =>
              refine ⟨k+1,true,A7,c7,m+2,K6++[x],rfl,by go_num,by omega,(show m+2≤k+1+1 by omega),?_,?_,HN2.out⟩
              · rw [show m+2=m+1+1 from rfl,←HM6.out];exact O7.out
              · show _=_;rw [List.length_append,HM6.out];rfl
             case measure=>simp [intOf];omega
           · refine step_build_at (by rfl) (.tmp 73) rfl x rfl ?_
             refine hK.out _ _ (SE3.out.on ((Below.refl _ _).alloc (Nat.le_refl _) _)) (fun hS=>?_)
             clear hK K;refine wpAnyH_ready (rs:=[4]) (by kernel_rfl) (by simp) ?_
             refine AllReadyH.cons (by simp only [lkA,lkB,lkC];rfl) (fun K hK=>?_) (AllReadyH.nil)
             have hc:=(OE.out.has.more (.cells (atCells x) 73)).at_ 0;go_simp;refine hK.out _ _ (SE3.out.on ((Below.refl _ _).alloc (Nat.le_refl _) _)) (fun hS=>?_)
             clear hK K;refine wpAnyH_ready (rs:=[13]) (by kernel_rfl) (by simp) ?_
             refine AllReadyH.cons (by simp only [lkA,lkB,lkC];rfl) (fun K hK=>?_) (AllReadyH.nil)
             refine step_append_run (by rfl) (.tmp 66) (.tmp 74) 64 64 rfl (.slice A5 (m+1) c5) (.slice (some ⟨w4.heap.size,0,none⟩) 1 1) rfl rfl R7.out ?_
             refine hK.out _ _ (SE0.out.on B7.out) (fun hS=>?_)
             clear hK K;refine inI 14 ?_
             iterate 2
              refine stI (v:=?_) (by simp only [lkA,lkB,lkC];rfl) (by kernel_rfl) (fun _ _ _ h=>h) (by rfl) (by assumption) ?_ ?_
              rotate_left 1
              · intro w hSw
                go_simp
                with_reducible rfl
              simp only [Act.put,siA,siB,siC,Nat.reduceAdd]
             refine outI ?_;refine wpAnyH_ready (rs:=[16]) (by kernel_rfl) (by simp) ?_
             refine AllReadyH.cons (by simp only [lkA,lkB,lkC];rfl) (fun K hK=>?_) (AllReadyH.nil)
             have hc5:=H7.out.at_ 0;have hf5:=H7.out.free 0;go_simp;refine hK.out _ _ (SE0.out.on O7.out.bl) (fun hS=>?_)
             clear hK K hc5 hf5;refine wpAnyH_done (by kernel_rfl) ?_ _
             refine NoPanic.normal ?_;go_wp2;go_roundw
             case rel =>
              refine ⟨k+1,true,A7,c7,m+2,K6++[x],rfl,by go_num,by omega,(show m+2≤k+1+1 by omega),?_,?_,HN2.out⟩
              · rw [show m+2=m+1+1 from rfl,←HM6.out];exact O7.out
              · show _=_;rw [List.length_append,HM6.out];rfl
             case measure=>simp [intOf];omega
     · have HN2:Hid ((K++[x])++restI false p ⟨nk,nd,nt,nm⟩ (L.drop (k+1))=ins p ⟨nk,nd,nt,nm⟩ L):=by
        show _=_;rw [List.append_assoc,List.singleton_append,←rest_skip p _ x _ hc,←HDR.out];exact HK.out
       have hxp:=cmp_ne hc;have q:((ba x.1).toList == (ba p).toList)=false:=by rw [eqS,decide_eq_false hxp]
       have q2:((ba x.1).toList != (ba p).toList)=true:=by rw [bne,q];rfl
       have SD0:=SDT;clear hxp;go_wp2_with fail
       refine (CC.out _).mono ?_;rintro e8 w8 ⟨rfl,rfl⟩;obtain ⟨v5,w5,hr5,ho5,hh5,hb5,A5,c5,hv5⟩:=J.out.drew.app x (by rw [HM.out];omega)
       subst hv5;have R5:=hid hr5;have O5:=hid ho5;have H5:=hid hh5;have B5:=hid hb5;have SD3:Hid (RdT t (some ⟨g,0,none⟩) n c g k x wr.drew):=SD0.out.on J.out.bl.drew;have OD:=hid J.out.drew;clear hr5 ho5 hh5 hb5;go_wp2;refine wp_region_noPanic ?_;refine wp_region_held_drew (S:=RdT t (some ⟨g,0,none⟩) n c g k x) (by kernel_rfl) (SD3.out) (fun hS=>?_)
       generalize wr.drew=w3 at *;refine inI 0 ?_
       iterate 4
        refine stI (v:=?_) (by simp only [lkA,lkB,lkC];rfl) (by kernel_rfl) (fun _ _ _ h=>h) (by rfl) (by assumption) ?_ ?_
        rotate_left 1
        · intro w hSw
          go_simp
          with_reducible rfl
        simp only [Act.put,siA,siB,siC,Nat.reduceAdd]
       refine outI ?_;refine inI 5 ?_
       iterate 3
        refine stI (v:=?_) (by simp only [lkA,lkB,lkC];rfl) (by kernel_rfl) (fun _ _ _ h=>h) (by rfl) (by assumption) ?_ ?_
        rotate_left 1
        · intro w hSw
          go_simp
          with_reducible rfl
        simp only [Act.put,siA,siB,siC,Nat.reduceAdd]
       refine outI ?_;refine tkH 8 (v:=?_) (by simp only [lkA,lkB,lkC];rfl) (by kernel_rfl) (fun _ _ _ h=>h) (by rfl) (by assumption) ?_ ?_
       rotate_left 1
       · intro w hSw
         have hc:=hSw.c0;go_simp
         with_reducible rfl
       simp only [Act.put,siA,siB,siC];refine inI 9 ?_
       iterate 2
        refine stI (v:=?_) (by simp only [lkA,lkB,lkC];rfl) (by kernel_rfl) (fun _ _ _ h=>h) (by rfl) (by assumption) ?_ ?_
        rotate_left 1
        · intro w hSw
          go_simp
          with_reducible rfl
        simp only [Act.put,siA,siB,siC,Nat.reduceAdd]
       refine outI ?_;refine' wpAnyH_take (i:=11) (v:=_) (by simp only [lkA,lkB,lkC];rfl) (by kernel_rfl) (by kernel_rfl) (by kernel_rfl) (fun _ _ _ h=>h) (yields_loadA (by rfl) 73 (.tmp 72) rfl g (k*5) rfl (atCells x) (fun w hSw=>hSw.at_.load)) (by assumption) ?_
       simp only [Act.put,siA,siB,siC];refine wpAnyH_ready (rs:=[4,12]) (by kernel_rfl) (by simp) ?_
       refine AllReadyH.cons (by simp only [lkA,lkB,lkC];rfl) (fun K hK=>?_) (AllReadyH.cons (by simp only [lkA,lkB,lkC];rfl) (fun K hK=>?_) (AllReadyH.nil))
       · have hc:=OD.out.has.at_ 0
         go_simp;refine hK.out _ _ SD3.out (fun hS=>?_)
         clear hK K;refine wpAnyH_ready (rs:=[12]) (by kernel_rfl) (by simp) ?_
         refine AllReadyH.cons (by simp only [lkA,lkB,lkC];rfl) (fun K hK=>?_) (AllReadyH.nil)
         refine step_build_at (by rfl) (.tmp 73) rfl x rfl ?_
         refine hK.out _ _ (SD3.out.on ((Below.refl _ _).alloc (Nat.le_refl _) _)) (fun hS=>?_)
         clear hK K;refine wpAnyH_ready (rs:=[13]) (by kernel_rfl) (by simp) ?_
         refine AllReadyH.cons (by simp only [lkA,lkB,lkC];rfl) (fun K hK=>?_) (AllReadyH.nil)
         refine step_append_run (by rfl) (.tmp 66) (.tmp 74) 64 64 rfl (.slice A' m c') (.slice (some ⟨w3.heap.size,0,none⟩) 1 1) rfl rfl R5.out ?_
         refine hK.out _ _ (SD0.out.on B5.out) (fun hS=>?_)
         clear hK K;refine inI 14 ?_
         iterate 2
          refine stI (v:=?_) (by simp only [lkA,lkB,lkC];rfl) (by kernel_rfl) (fun _ _ _ h=>h) (by rfl) (by assumption) ?_ ?_
          rotate_left 1
          · intro w hSw
            go_simp
            with_reducible rfl
          simp only [Act.put,siA,siB,siC,Nat.reduceAdd]
         refine outI ?_;refine wpAnyH_ready (rs:=[16]) (by kernel_rfl) (by simp) ?_
         refine AllReadyH.cons (by simp only [lkA,lkB,lkC];rfl) (fun K hK=>?_) (AllReadyH.nil)
         have hc5:=H5.out.at_ 0;have hf5:=H5.out.free 0;go_simp;refine hK.out _ _ (SD0.out.on O5.out.bl) (fun hS=>?_)
         clear hK K hc5 hf5;refine wpAnyH_done (by kernel_rfl) ?_ _
         refine NoPanic.normal ?_;go_wp2;go_roundw
         case rel =>
          refine ⟨k+1,false,A5,c5,m+1,K++[x],rfl,by go_num,by omega,(show m+1≤k+1+0 by omega),?_,?_,HN2.out⟩
          · rw [←HM.out];exact O5.out
          · show _=_;rw [List.length_append,HM.out];rfl
         case measure=>simp [intOf];omega
       · refine step_build_at (by rfl) (.tmp 73) rfl x rfl ?_
         refine hK.out _ _ (SD3.out.on ((Below.refl _ _).alloc (Nat.le_refl _) _)) (fun hS=>?_)
         clear hK K;refine wpAnyH_ready (rs:=[4]) (by kernel_rfl) (by simp) ?_
         refine AllReadyH.cons (by simp only [lkA,lkB,lkC];rfl) (fun K hK=>?_) (AllReadyH.nil)
         have hc:=(OD.out.has.more (.cells (atCells x) 73)).at_ 0;go_simp;refine hK.out _ _ (SD3.out.on ((Below.refl _ _).alloc (Nat.le_refl _) _)) (fun hS=>?_)
         clear hK K;refine wpAnyH_ready (rs:=[13]) (by kernel_rfl) (by simp) ?_
         refine AllReadyH.cons (by simp only [lkA,lkB,lkC];rfl) (fun K hK=>?_) (AllReadyH.nil)
         refine step_append_run (by rfl) (.tmp 66) (.tmp 74) 64 64 rfl (.slice A' m c') (.slice (some ⟨w3.heap.size,0,none⟩) 1 1) rfl rfl R5.out ?_
         refine hK.out _ _ (SD0.out.on B5.out) (fun hS=>?_)
         clear hK K;refine inI 14 ?_
         iterate 2
          refine stI (v:=?_) (by simp only [lkA,lkB,lkC];rfl) (by kernel_rfl) (fun _ _ _ h=>h) (by rfl) (by assumption) ?_ ?_
          rotate_left 1
          · intro w hSw
            go_simp
            with_reducible rfl
          simp only [Act.put,siA,siB,siC,Nat.reduceAdd]
         refine outI ?_;refine wpAnyH_ready (rs:=[16]) (by kernel_rfl) (by simp) ?_
         refine AllReadyH.cons (by simp only [lkA,lkB,lkC];rfl) (fun K hK=>?_) (AllReadyH.nil)
         have hc5:=H5.out.at_ 0;have hf5:=H5.out.free 0;go_simp;refine hK.out _ _ (SD0.out.on O5.out.bl) (fun hS=>?_)
         clear hK K hc5 hf5;refine wpAnyH_done (by kernel_rfl) ?_ _
         refine NoPanic.normal ?_;go_wp2;go_roundw
         case rel =>
          refine ⟨k+1,false,A5,c5,m+1,K++[x],rfl,by go_num,by omega,(show m+1≤k+1+0 by omega),?_,?_,HN2.out⟩
          · rw [←HM.out];exact O5.out
          · show _=_;rw [List.length_append,HM.out];rfl
         case measure=>simp [intOf];omega
  · have HKE:Hid (K++restI done p ⟨nk,nd,nt,nm⟩ []=ins p ⟨nk,nd,nt,nm⟩ L):=by
     have:=HK.out;rw [List.drop_of_length_le (by rw [HL.out];omega)] at this
     exact this
    cases done with
    | true =>
     go_wp2;go_ret;have ht:=J.out.tree;have he:=HKE.out;rw [show restI true p ⟨nk,nd,nt,nm⟩ []=[] from rfl,List.append_nil] at he
     rw [he] at ht;exact ⟨_,rfl,ht.mono (by have:=HS0.out;omega),BX.out.trans (J.out.bl.mono (by have:=HS0.out;omega))⟩
    | false =>
     have hmk:m≤k:=HMK.out;have SD0:Hid (RdN w.heap.size (ndA nk nd nt nm) w0):=⟨NB.out⟩;obtain ⟨v5,w5,hr5,ho5,hh5,hb5,A5,c5,hv5⟩:=J.out.drew.app (p,⟨nk,nd,nt,nm⟩) (by rw [HM.out];omega)
     subst hv5;have R5:=hid hr5;have O5:=hid ho5;have H5:=hid hh5;have B5:=hid hb5;have SD3:Hid (RdN w.heap.size (ndA nk nd nt nm) wr.drew):=SD0.out.on J.out.bl.drew;have OD:=hid J.out.drew;clear hr5 ho5 hh5 hb5;go_wp2;refine wp_region_noPanic ?_;refine wp_region_held_drew (S:=RdN w.heap.size (ndA nk nd nt nm)) (by kernel_rfl) (SD3.out) (fun hS=>?_)
     generalize wr.drew=w3 at *;refine inI 0 ?_
     iterate 4
      refine stI (v:=?_) (by simp only [lkA,lkB,lkC];rfl) (by kernel_rfl) (fun _ _ _ h=>h) (by rfl) (by assumption) ?_ ?_
      rotate_left 1
      · intro w hSw
        go_simp
        with_reducible rfl
      simp only [Act.put,siA,siB,siC,Nat.reduceAdd]
     refine outI ?_;refine tkH 5 (v:=?_) (by simp only [lkA,lkB,lkC];rfl) (by kernel_rfl) (fun _ _ _ h=>h) (by rfl) (by assumption) ?_ ?_
     rotate_left 1
     · intro w hSw
       go_simp
       with_reducible rfl
     simp only [Act.put,siA,siB,siC];refine' wpAnyH_take (i:=6) (v:=_) (by simp only [lkA,lkB,lkC];rfl) (by kernel_rfl) (by kernel_rfl) (by kernel_rfl) (fun _ _ _ h=>h) (yields_loadA (by rfl) 71 (.tmp 5) rfl w.heap.size 0 rfl (ndA nk nd nt nm) (fun w hSw=>load_nodeC hSw.h)) (by assumption) ?_
     simp only [Act.put,siA,siB,siC];refine tkH 7 (v:=?_) (by simp only [lkA,lkB,lkC];rfl) (by kernel_rfl) (fun _ _ _ h=>h) (by rfl) (by assumption) ?_ ?_
     rotate_left 1
     · intro w hSw
       go_simp
       with_reducible rfl
     simp only [Act.put,siA,siB,siC];refine wpAnyH_ready (rs:=[4,8]) (by kernel_rfl) (by simp) ?_
     refine AllReadyH.cons (by simp only [lkA,lkB,lkC];rfl) (fun K hK=>?_) (AllReadyH.cons (by simp only [lkA,lkB,lkC];rfl) (fun K hK=>?_) (AllReadyH.nil))
     · have hc:=OD.out.has.at_ 0
       go_simp;refine hK.out _ _ SD3.out (fun hS=>?_)
       clear hK K;refine wpAnyH_ready (rs:=[8]) (by kernel_rfl) (by simp) ?_
       refine AllReadyH.cons (by simp only [lkA,lkB,lkC];rfl) (fun K hK=>?_) (AllReadyH.nil)
       refine step_build_at (by rfl) (.tmp 87) rfl (p,⟨nk,nd,nt,nm⟩) rfl ?_
       refine hK.out _ _ (SD3.out.on ((Below.refl _ _).alloc (Nat.le_refl _) _)) (fun hS=>?_)
       clear hK K;refine wpAnyH_ready (rs:=[9]) (by kernel_rfl) (by simp) ?_
       refine AllReadyH.cons (by simp only [lkA,lkB,lkC];rfl) (fun K hK=>?_) (AllReadyH.nil)
       refine step_append_run (by rfl) (.tmp 84) (.tmp 88) 64 64 rfl (.slice A' m c') (.slice (some ⟨w3.heap.size,0,none⟩) 1 1) rfl rfl R5.out ?_
       refine hK.out _ _ (SD0.out.on B5.out) (fun hS=>?_)
       clear hK K;refine inI 10 ?_
       iterate 2
        refine stI (v:=?_) (by simp only [lkA,lkB,lkC];rfl) (by kernel_rfl) (fun _ _ _ h=>h) (by rfl) (by assumption) ?_ ?_
        rotate_left 1
        · intro w hSw
          go_simp
          with_reducible rfl
        simp only [Act.put,siA,siB,siC,Nat.reduceAdd]
       refine outI ?_;refine wpAnyH_ready (rs:=[12]) (by kernel_rfl) (by simp) ?_
       refine AllReadyH.cons (by simp only [lkA,lkB,lkC];rfl) (fun K hK=>?_) (AllReadyH.nil)
       have hc5:=H5.out.at_ 0;have hf5:=H5.out.free 0;go_simp;refine hK.out _ _ (SD0.out.on O5.out.bl) (fun hS=>?_)
       clear hK K hc5 hf5;refine wpAnyH_done (by kernel_rfl) ?_ _
       refine NoPanic.normal ?_;go_wp2;go_ret;have ht:=O5.out.tree;have he:=HKE.out;rw [show restI false p ⟨nk,nd,nt,nm⟩ []=[(p,⟨nk,nd,nt,nm⟩)] from rfl] at he
       rw [he] at ht;exact ⟨_,rfl,ht.mono (by have:=HS0.out;omega),BX.out.trans (O5.out.bl.mono (by have:=HS0.out;omega))⟩
     · refine step_build_at (by rfl) (.tmp 87) rfl (p,⟨nk,nd,nt,nm⟩) rfl ?_
       refine hK.out _ _ (SD3.out.on ((Below.refl _ _).alloc (Nat.le_refl _) _)) (fun hS=>?_)
       clear hK K;refine wpAnyH_ready (rs:=[4]) (by kernel_rfl) (by simp) ?_
       refine AllReadyH.cons (by simp only [lkA,lkB,lkC];rfl) (fun K hK=>?_) (AllReadyH.nil)
       have hc:=(OD.out.has.more (.cells (atCells (p,⟨nk,nd,nt,nm⟩)) 73)).at_ 0;go_simp;refine hK.out _ _ (SD3.out.on ((Below.refl _ _).alloc (Nat.le_refl _) _)) (fun hS=>?_)
       clear hK K;refine wpAnyH_ready (rs:=[9]) (by kernel_rfl) (by simp) ?_
       refine AllReadyH.cons (by simp only [lkA,lkB,lkC];rfl) (fun K hK=>?_) (AllReadyH.nil)
       refine step_append_run (by rfl) (.tmp 84) (.tmp 88) 64 64 rfl (.slice A' m c') (.slice (some ⟨w3.heap.size,0,none⟩) 1 1) rfl rfl R5.out ?_
       refine hK.out _ _ (SD0.out.on B5.out) (fun hS=>?_)
       clear hK K;refine inI 10 ?_
       iterate 2
        refine stI (v:=?_) (by simp only [lkA,lkB,lkC];rfl) (by kernel_rfl) (fun _ _ _ h=>h) (by rfl) (by assumption) ?_ ?_
        rotate_left 1
        · intro w hSw
          go_simp
          with_reducible rfl
        simp only [Act.put,siA,siB,siC,Nat.reduceAdd]
       refine outI ?_;refine wpAnyH_ready (rs:=[12]) (by kernel_rfl) (by simp) ?_
       refine AllReadyH.cons (by simp only [lkA,lkB,lkC];rfl) (fun K hK=>?_) (AllReadyH.nil)
       have hc5:=H5.out.at_ 0;have hf5:=H5.out.free 0;go_simp;refine hK.out _ _ (SD0.out.on O5.out.bl) (fun hS=>?_)
       clear hK K hc5 hf5;refine wpAnyH_done (by kernel_rfl) ?_ _
       refine NoPanic.normal ?_;go_wp2;go_ret;have ht:=O5.out.tree;have he:=HKE.out;rw [show restI false p ⟨nk,nd,nt,nm⟩ []=[(p,⟨nk,nd,nt,nm⟩)] from rfl] at he
       rw [he] at ht;exact ⟨_,rfl,ht.mono (by have:=HS0.out;omega),BX.out.trans (O5.out.bl.mono (by have:=HS0.out;omega))⟩
end Go.Proofs.YtahkcemdbfjilaaGreatDoor
