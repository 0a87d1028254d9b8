/- Several texts in one. Conditions: those said at each. -/
import Derived.Test.YtahkcemdbfjilaaGreatDoorIt00
import Derived.Sort.Walk0
import Derived.Test.YtahkcemdbfjilaaGreatDoorIt36
set_option linter.unusedSimpArgs false
set_option linter.unusedVariables false
set_option maxRecDepth 100000
namespace Go.Proofs.YtahkcemdbfjilaaGreatDoor
open Go.RowKit Go.Maps
theorem listM_kind {room:Nat} {L:Tr} (hW:WFT room L) {s:By} (hm:s=[]∨mayB s=true):listM L s=if kindP L s=0 then ([],5) else if kindP L s=2 then (sortL (childR L s),0) else ([],12):=by
 have hc:¬(!decide (s=[])&&!mayB s)=true:=by rcases hm with k | k<;>simp [k]
 unfold listM;rw [if_neg hc];unfold noDirE;by_cases k2:kindP L s=2
 · rw [if_pos k2,if_pos rfl,if_neg (by rw [k2];decide),if_pos k2,child_same hW k2]
 · have hs:s≠[]:=fun e=>k2 (by unfold kindP;rw [if_pos e])
   rw [if_neg k2,if_neg k2];have hk:kindP L s=match look L s with | some n=>n.kind | none=>0:=by unfold kindP;rw [if_neg hs];cases look L s<;>rfl
   cases hl:look L s with
   | none =>
    have hk0:kindP L s=0:=by rw [hk,hl]
    simp [hk0]
   | some n =>
    have hkn:kindP L s=n.kind:=by rw [hk,hl]
    have:=hW.kind s n hl;have h0:¬kindP L s=0:=by rw [hkn];omega
    simp [h0]
theorem less_yes {z y:By} (h:z < y):Op.bytesLess (ba z).toList (ba y).toList=true:=by rw [bytesLess_eq,toList_tl,toList_tl,tl_ba,tl_ba];simpa using h
theorem less_no {z y:By} (h:¬z < y):Op.bytesLess (ba z).toList (ba y).toList=false:=by rw [bytesLess_eq,toList_tl,toList_tl,tl_ba,tl_ba];simpa using h
theorem row_cells {w:World} {B m c:Nat} {A:Option Addr} {ys:List By} (h:w.ownsRow B 9 1 (.slice A m c) m (ys.map kS)) (hm:0 < m):∃g,A=some ⟨g,0,none⟩∧B≤g∧m≤c∧∀i,i < m→w.cell? ⟨g,i,none⟩=some (kS (ys.getD i [])):=by
 have hl:ys.length=m:=by have:=h.1;simpa using this
 rcases h.2 with ⟨_,k⟩ | ⟨g,c',cur,k1,k2,k3,k4,k5,k6,k7⟩
 · omega
 · injection k1 with e1 _ e3
   refine ⟨g,e1,k2,by omega,fun i hi=>?_⟩
   rw [cell_of_row w g i cur 9 (0,0) k3,←Array.getElem?_toList];have:(cur.toList.take (m*1))[i]? = (ys.map kS)[i]?:=by rw [k7]
   have e9:(ys.map kS)[i]? = some (kS (ys.getD i [])):=by rw [List.getElem?_map,List.getD,List.getElem?_eq_getElem (by omega)];rfl
   rw [List.getElem?_take,if_pos (by omega),e9] at this
   exact this
theorem step_copy_run {P:Program} {ops:Array Oper} {o:Oper} {a:Act} {w:World} {K:Act→World→Prop} {Q:Exit→Act→World→Prop} {E:Prop}
 (hw:Region.wanted o (yielded ops a.tmps)=true) (s x:Operand) (t tn:TypeId) (ho:o.op=.call { callee:=.builtin .copy,args:=#[s,x],argTypes:=#[t,tn] })
 (vs vx:Value) (hs:a.eval s=vs) (hx:a.eval x=vx) {v':Value} {w':World} (hr:(Builtin.copy_ #[t,tn] o.type #[vs,vx]).run P w=.ok v' w') (h:K (a.put o.dst v') w') :
 if Region.wanted o (yielded ops a.tmps)=true then Oper.wp P o a w K Q else E:=by
 rw [if_pos hw];unfold Oper.wp execOp;simp only [ho,hs,hx,resolve,invoke,builtin,Sem.run_bind,Sem.run_pure,Result.andThen_ok,List.map_toArray,List.map_cons,List.map_nil,hr];exact h
section
variable {own:Nat→Prop} {w:World} {r:Nat} {M:Mo}
set_option maxHeartbeats 4000000 in
theorem rList_no (s:By) (hs:s.length≤4000) (he:s≠[]) (hm:mayB s=false):Calls Tryz.prog 65 #[.pointer (some ⟨r,0,none⟩),kS s] w fun e w'=>ListP w (listM M.now s) e w':=by
 have z1:¬(ba s).toList=[]:=by rw [toList_tl,tl_ba];exact he
 have z2:(ba s).toList.isEmpty=false:=by simpa using z1
 have C2:Hid (∀W,Calls Tryz.prog 62 #[kS s] W fun e w'=>e=.returned (.bool false)∧Below W.heap.size W w'):=fun W=>Rf.rmay_v (ba s) false (by show mayB (tl (ba s))=_;rw [tl_ba];exact hm) W (by rw [ba_size];exact hs)
 have HE:Hid (listM M.now s=([],10)):=by show _=_;unfold listM;rw [if_pos (by rw [hm,decide_eq_false he];rfl)]
 clear hs he hm;go_enter Tryz.func65,Tryz.ntmps65
 go_wp2_with fail
 refine (C2.out _).mono ?_;rintro e2 w2 ⟨rfl,hb2⟩;go_wp2;go_ret2;rw [HE.out];exact ListP.none _ _ _ hb2
set_option maxHeartbeats 32000000 in
theorem rList_root (h:RDk own w r M) (s:By) (hs:s.length≤4000) (he:s=[]):Calls Tryz.prog 65 #[.pointer (some ⟨r,0,none⟩),kS s] w fun e w'=>ListP w (listM M.now s) e w':=by
 obtain ⟨i0,hi,hz0,hz1,hz2⟩:=info_parts Rf.infoStr;obtain ⟨tL,ts,sv,es,fused,left,h⟩:=h;have H:=hid h;have HSZ:=hid h.short;have HWF:=hid h.good.good.w1;have HSS:Hid (s.length≤4000):=hs;have CK:Hid (∀W,Below w.heap.size w W→Calls Tryz.prog 112 #[.pointer (some ⟨tL,0,none⟩),kS s] W fun e w'=>e=.returned (.int .i64 (kindP M.now s))∧W=w'):=fun W hb=>rKind_any (h.t1.tree.on hb) s (by have:=h.short;omega)
 obtain ⟨A0,n,c0',hv⟩:=h.t1.tree.view;have HV:=hid hv;have HLM:=hid (listM_kind HWF.out (s:=s) (.inl he));obtain ⟨kk,HKK⟩:∃k,Hid (kindP M.now s=k):=⟨_,rfl⟩;rw [HKK.out] at CK HLM;obtain ⟨L,HLL⟩:∃L,Hid (M.now=L):=⟨_,rfl⟩;rw [HLL.out] at HWF HV HSZ HLM ⊢;have hn:n≤16384:=by rw [←HV.out.len];exact HSZ.out
 have HR0:=hid (h.low r h.op);have HRC:Hid (w.cell? ⟨r,0,none⟩=some (.pointer (some ⟨tL,0,none⟩))):=h.has.at_ 0;have B0:Hid (Below w.heap.size w w):=Below.refl _ _;have z1:(ba s).toList=[]:=by rw [toList_tl,tl_ba,he]
 have z2:(ba s).toList.isEmpty=true:=by rw [z1];rfl
 have HNE:Hid (s=[]):=he;have B2:=hid B0.out;clear h hv hs he;go_enter Tryz.func65,Tryz.ntmps65
 have c0:w.cell? ⟨r,0,none⟩=some (.pointer (some ⟨tL,0,none⟩)):=(B2.out.cell (p:=⟨r,0,none⟩) HR0.out).trans HRC.out;go_wp2_with fail
 refine (CK.out _ B2.out).mono ?_;rintro e3 w3 ⟨rfl,rfl⟩;by_cases k0:kk=0
 · have q0:(kk == 0)=true:=by simpa using k0
   have HE:Hid (listM L s=([],5)):=by show _=_;rw [HLM.out,if_pos k0]
   clear k0;go_wp2;go_ret2;rw [HE.out];exact ListP.none _ _ _ B2.out
 have q0:(kk == 0)=false:=by simpa using k0
 by_cases k2:kk=2
 case neg =>
  have q1:(kk != 2)=true:=by simpa using k2
  have HE:Hid (listM L s=([],12)):=by show _=_;rw [HLM.out,if_neg k0,if_neg k2]
  clear k0 k2;go_wp2;go_ret2;rw [HE.out];exact ListP.none _ _ _ B2.out
 have q1:(kk != 2)=false:=by simp [k2]
 have HE:Hid (listM L s=(sortL (childR L s),0)):=by show _=_;rw [HLM.out,if_neg k0,if_pos k2]
 clear k0 k2 c0;go_wp2;go_loopw [7,8] (fun v7 v8 wr=>∃(k m cc:Nat) (A:Option Addr),v7=.slice A m cc∧v8=.int .i64 (k:Int)∧k≤n∧m≤k∧Hid (wr.ownsRow w.heap.size 9 1 (.slice A m cc) m ((sortL (childR (L.take k) s)).map kS))∧Hid ((sortL (childR (L.take k) s)).length=m)∧Hid (Below w.heap.size w wr)) (fun _ v8 _=>n - (intOf v8).toNat)
 case atStart =>
  have e0:sortL (childR (L.take 0) s)=[]:=by rw [List.take_zero];exact List.mergeSort_nil
  exact ⟨0,0,0,none,rfl,rfl,by omega,by omega,by show World.ownsRow _ _ _ _ _ _ _;rw [e0];exact World.ownsRow_nil _ _ _ _,by show _=_;rw [e0];rfl,B2.out⟩
 case round =>
  obtain ⟨k,m,cc,A,rfl,rfl,hk,hmk,J1,J2,J3⟩:=hrel;have c0:wr.cell? ⟨r,0,none⟩=some (.pointer (some ⟨tL,0,none⟩)):=(J3.out.cell (p:=⟨r,0,none⟩) HR0.out).trans HRC.out;have hvr:=HV.out.on J3.out;have d0:=hvr.c0;by_cases hlt:k < n
  · obtain ⟨g,hA,hat⟩:=hvr.row (by omega)
    subst hA;have hkl:k < L.length:=by rw [HV.out.len];exact hlt
    have d1:=(hat k hlt).c0;have hmx:mayB (L.getD k at0).1=true:=HWF.out.may _ (by rw [lookD HWF.out.srt hkl];rfl)
    have HNX:=hid (childR_next s hkl);obtain ⟨x,hx⟩:∃x,x=(L.getD k at0).1:=⟨_,rfl⟩;rw [←hx] at d1 hmx HNX;have HMX:=hid hmx;have hxl:x.length≤160:=(may_parts hmx).1;have CP:Hid (Calls Tryz.prog 113 #[kS x] wr fun e w'=>e=.returned (kS (aheadL x))∧Below wr.heap.size wr w'):=by
     have:=rparent9_any x (by omega) wr
     rw [findV_yes hmx] at this;exact this
    obtain ⟨ys,HYS⟩:∃ys,Hid (sortL (childR (L.take k) s)=ys):=⟨_,rfl⟩;rw [HYS.out] at J1 J2;have hlt':(k:Int) < (n:Int):=by omega
    have h0:(0:Int)≤(k:Int):=by omega
    have w1:IntKind.i64.wrap ((k:Int)+1)=(k:Int)+1:=i64in _ (by omega) (by omega)
    clear hat hmx hx hkl hvr;go_wp2_with fail
    refine CP.out.mono ?_;rintro e5 w5 ⟨rfl,hb5⟩;have B5:Hid (Below w.heap.size w w5):=J3.out.trans (hb5.mono J3.out.size);have R5:Hid (w5.ownsRow w.heap.size 9 1 (.slice A m cc) m (ys.map kS)):=row_of J1.out (fun g hg=>hb5.block g (World.ownsRow.lt J1.out g hg).2)
    clear hb5 c0 d0 d1;by_cases hpa:aheadL x=s
    · have qa:((ba (aheadL x)).toList == (ba s).toList)=true:=by rw [eqS,decide_eq_true hpa]
      have qb1:(ba (aheadL x)).toList=[]:=by rw [toList_tl,tl_ba,hpa];exact HNE.out
      have qb2:(ba (aheadL x)).toList.isEmpty=true:=by rw [qb1];rfl
      have HPA:=hid hpa;have HN1:=hid (HNX.out.trans (if_pos hpa));clear hpa;have hny:nameR s x=x:=if_pos HNE.out;obtain ⟨y,HY⟩:∃y,Hid (nameR s x=y):=⟨_,rfl⟩;rw [HY.out] at HN1;have HSP:=hid (fun (a:Nat) (z0:a≤ys.length) (z1:∀i,i < a→ys.getD i [] < y) (z2:a < ys.length→¬ys.getD a [] < y)=>sort_put (xs:=childR (L.take k) s) (x:=y) HYS.out z0 z1 z2)
      rw [←HN1.out] at HSP;have N2:Hid (m+1≤maxLen):=by show _≤_;unfold maxLen;omega
      have N3:Hid ((m+1)*16≤140737488355328):=by show _≤_;omega
      have N4:Hid (∀o,w.heap.size≤(w5.alloc o).heap.size):=by intro o;have:=B5.out.size;simp;omega
      rw [HY.out] at hny;subst hny;go_wp2;go_loopw [10] (fun v10 wr2=>∃a:Nat,v10=.int .i64 (a:Int)∧a≤m∧Hid (∀i,i < a→ys.getD i [] < y)∧w5=wr2) (fun v10 _=>m - (intOf v10).toNat)
      case atStart=>exact ⟨0,rfl,by omega,fun i hi=>absurd hi (by omega),rfl⟩
      case round =>
       obtain ⟨a,rfl,ha,K1,rfl⟩:=hrel;have ha0:(0:Int)≤(a:Int):=by omega
       have w2:IntKind.i64.wrap ((a:Int)+1)=(a:Int)+1:=i64in _ (by omega) (by omega)
       by_cases h1:a < m
       · obtain ⟨g2,hA2,hg2,hmc,hcell⟩:=row_cells R5.out (by omega)
         subst hA2;have e1:=hcell a h1;have h1':(a:Int) < (m:Int):=by omega
         by_cases hz:ys.getD a [] < y
         · have qb:=less_yes hz
           have K2:Hid (∀i,i < a+1→ys.getD i [] < y):=fun i hi'=>by
            by_cases k9:i=a
            · rw [k9];exact hz
            · exact K1.out i (by omega)
           clear hcell hz;generalize ys.getD a []=z at e1 qb;go_wp2;go_roundw
           case rel=>exact ⟨a+1,by go_num,by omega,K2.out,trivial⟩
           case measure=>simp [intOf];omega
         · have qb:=less_no hz
           have HS2:Hid (sortL (childR (L.take (k+1)) s)=ys.take a++y :: ys.drop a):=HSP.out a (by have:=J2.out;omega) K1.out (fun _=>hz)
           clear hcell hz;generalize ys.getD a []=z at e1 qb;go_wp2_with (at_builtin;refine wpList_append_own _ rfl _ _ 34 rfl w.heap.size 9 i0 (.string ⟨#[]⟩) 1 16 Tryz.underlying34 hi hz0 hz1 hz2 rfl (by omega) _ _ _ rfl (R5.out.alloc _) ⟨w5.heap.size,0,none⟩ 1 1 [Value.string ⟨#[]⟩] rfl rfl (cell_one_new _ _ _) (Rf.S9_one _) N2.out N3.out (N4.out _) ?_;intro v7 w7 hown7 hgrow7 _)
           have HO7:Hid (w7.drew.ownsRow w.heap.size 9 1 v7 (m+1) ((ys++[[]]).map kS)):=by
            rw [List.map_append];exact row_of hown7 (fun _ _=>rfl)
           have B7:Hid (Below w.heap.size w w7.drew) :=
            ((B5.out.alloc B5.out.size _).grown hgrow7 (N4.out _) (fun g hg=>(World.ownsRow.lt R5.out g hg).1)).drew
           obtain ⟨g7,c7,rfl,hg7,hc7⟩:∃g7 c7,v7=.slice (some ⟨g7,0,none⟩) (m+1) c7∧w.heap.size≤g7∧m+1≤c7:=by
            rcases HO7.out.2 with ⟨_,z⟩ | ⟨g',c',cur,k1,k2,k3,k4,_⟩
            · omega
            · exact ⟨g',c',k1,k2,k4⟩
           have HG7:=hid hg7;clear hown7 hgrow7 hg7;have t1:((a:Int)+1).toNat=a+1:=by omega
           have t2:(a:Int)+1≤(((m+1:Nat):Int):Int):=by omega
           have t3:(0:Int)≤(a:Int)+1:=by omega
           have t4:(a:Int)≤(((m+1:Nat):Int):Int):=by omega
           have t5:(a:Int) < (((m+1:Nat):Int):Int):=by omega
           have t6:a≤m+1:=by omega
           have t7:(a:Int)≤(m:Int)+1:=by omega
           have t8:(a:Int) < (m:Int)+1:=by omega
           have t9:(a:Int)+1≤(m:Int)+1:=by omega
           have n1:¬c7=a+1:=by omega
           have n2:¬c7=a:=by omega
           obtain ⟨n9,w9,rc9,hc9,hf9,hs9,hr9⟩:=row_shift HO7.out J2.out ha (some ⟨g7,a+1,none⟩) (fun _=>rfl) 3
           have RC9:=hid rc9;have RF9:=hid hr9;clear rc9 hr9 hs9;go_wp2;refine wp_region_noPanic ?_;refine wp_region_held_drew (S:=fun _=>True) (by kernel_rfl) (trivial) (fun hS=>?_)
           generalize w7.drew=w8 at *;refine inI 0 ?_
           iterate 7
            refine stI (v:=?_) (by simp only [lkA,lkB,lkC];rfl) (by kernel_rfl) (fun _ _ _ h=>h) (by rfl) (by assumption) ?_ ?_
            rotate_left 1
            · intro w hSw
              go_simp
              with_reducible rfl
            simp only [Act.put,siA,siB,siC,Nat.reduceAdd]
           refine outI ?_;refine wpAnyH_ready (rs:=[7]) (by kernel_rfl) (by simp) ?_
           refine AllReadyH.cons (by simp only [lkA,lkB,lkC];rfl) (fun K hK=>?_) (AllReadyH.nil)
           refine step_copy_run (by rfl) (.tmp 84) (.tmp 87) 34 34 rfl (.slice (some ⟨g7,a+1,none⟩) (m - a) (c7 - (a+1))) (.slice (some ⟨g7,a,none⟩) (m+1 - a) (c7 - a)) rfl rfl RC9.out ?_
           refine hK.out _ _ trivial (fun hS=>?_)
           clear hK K hS;refine wpAnyH_done (by kernel_rfl) ?_ _
           refine NoPanic.normal ?_;go_wp2;go_roundw
           case rel =>
            obtain ⟨z1,z2⟩:=RF9.out y;refine ⟨k+1,m+1,_,some ⟨g7,0,none⟩,rfl,by go_num,by omega,by omega,?_,?_,B7.out.trans z2⟩
            · show World.ownsRow _ _ _ _ _ _ _;rw [HS2.out];exact z1
            · show _=_;rw [HS2.out,List.length_append,List.length_cons,List.length_take,List.length_drop];have:=J2.out;omega
           case measure=>simp [intOf];omega
       · obtain rfl:a=m:=by omega
         have h1':¬(a:Int) < (a:Int):=by omega
         have HS2:Hid (sortL (childR (L.take (k+1)) s)=ys.take a++y :: ys.drop a):=HSP.out a (by have:=J2.out;omega) K1.out (fun z9=>absurd z9 (by have:=J2.out;omega))
         go_wp2_with (at_builtin;refine wpList_append_own _ rfl _ _ 34 rfl w.heap.size 9 i0 (.string ⟨#[]⟩) 1 16 Tryz.underlying34 hi hz0 hz1 hz2 rfl (by omega) _ _ _ rfl (R5.out.alloc _) ⟨w5.heap.size,0,none⟩ 1 1 [Value.string ⟨#[]⟩] rfl rfl (cell_one_new _ _ _) (Rf.S9_one _) N2.out N3.out (N4.out _) ?_;intro v7 w7 hown7 hgrow7 _)
         have HO7:Hid (w7.drew.ownsRow w.heap.size 9 1 v7 (a+1) ((ys++[[]]).map kS)):=by
            rw [List.map_append];exact row_of hown7 (fun _ _=>rfl)
         have B7:Hid (Below w.heap.size w w7.drew) :=
            ((B5.out.alloc B5.out.size _).grown hgrow7 (N4.out _) (fun g hg=>(World.ownsRow.lt R5.out g hg).1)).drew
         obtain ⟨g7,c7,rfl,hg7,hc7⟩:∃g7 c7,v7=.slice (some ⟨g7,0,none⟩) (a+1) c7∧w.heap.size≤g7∧a+1≤c7:=by
            rcases HO7.out.2 with ⟨_,z⟩ | ⟨g',c',cur,k1,k2,k3,k4,_⟩
            · omega
            · exact ⟨g',c',k1,k2,k4⟩
         have HG7:=hid hg7;clear hown7 hgrow7 hg7;have t1:((a:Int)+1).toNat=a+1:=by omega
         have t2:(a:Int)+1≤(((a+1:Nat):Int):Int):=by omega
         have t3:(0:Int)≤(a:Int)+1:=by omega
         have t4:(a:Int)≤(((a+1:Nat):Int):Int):=by omega
         have t5:(a:Int) < (((a+1:Nat):Int):Int):=by omega
         have t6:a≤a+1:=by omega
         have t7:(a:Int)≤(a:Int)+1:=by omega
         have t8:(a:Int) < (a:Int)+1:=by omega
         have t9:(a:Int)+1≤(a:Int)+1:=by omega
         have n2:¬c7=a:=by omega
         by_cases n1:c7=a+1
         · subst n1
           obtain ⟨n9,w9,rc9,hc9,hf9,hs9,hr9⟩:=row_shift HO7.out J2.out ha (some ⟨g7,0,none⟩) (fun z=>absurd z (by omega)) 3
           simp only [Nat.sub_self,Nat.add_sub_cancel_left] at rc9;have RC9:=hid rc9;have RF9:=hid hr9;clear rc9 hr9 hs9;go_wp2;refine wp_region_noPanic ?_;refine wp_region_held_drew (S:=fun _=>True) (by kernel_rfl) (trivial) (fun hS=>?_)
           generalize w7.drew=w8 at *;refine inI 0 ?_
           iterate 7
            refine stI (v:=?_) (by simp only [lkA,lkB,lkC];rfl) (by kernel_rfl) (fun _ _ _ h=>h) (by rfl) (by assumption) ?_ ?_
            rotate_left 1
            · intro w hSw
              go_simp
              with_reducible rfl
            simp only [Act.put,siA,siB,siC,Nat.reduceAdd]
           refine outI ?_;refine wpAnyH_ready (rs:=[7]) (by kernel_rfl) (by simp) ?_
           refine AllReadyH.cons (by simp only [lkA,lkB,lkC];rfl) (fun K hK=>?_) (AllReadyH.nil)
           refine step_copy_run (by rfl) (.tmp 84) (.tmp 87) 34 34 rfl (.slice (some ⟨g7,0,none⟩) 0 0) (.slice (some ⟨g7,a,none⟩) 1 1) rfl rfl RC9.out ?_
           refine hK.out _ _ trivial (fun hS=>?_)
           clear hK K hS;refine wpAnyH_done (by kernel_rfl) ?_ _
           refine NoPanic.normal ?_;go_wp2;go_roundw
           case rel =>
            obtain ⟨z1,z2⟩:=RF9.out y;refine ⟨k+1,a+1,_,some ⟨g7,0,none⟩,rfl,by go_num,by omega,by omega,?_,?_,B7.out.trans z2⟩
            · show World.ownsRow _ _ _ _ _ _ _;rw [HS2.out];exact z1
            · show _=_;rw [HS2.out,List.length_append,List.length_cons,List.length_take,List.length_drop];have:=J2.out;omega
           case measure=>simp [intOf];omega
         · obtain ⟨n9,w9,rc9,hc9,hf9,hs9,hr9⟩:=row_shift HO7.out J2.out ha (some ⟨g7,a+1,none⟩) (fun z=>absurd z (by omega)) 3
           simp only [Nat.sub_self,Nat.add_sub_cancel_left] at rc9;have RC9:=hid rc9;have RF9:=hid hr9;clear rc9 hr9 hs9;go_wp2;refine wp_region_noPanic ?_;refine wp_region_held_drew (S:=fun _=>True) (by kernel_rfl) (trivial) (fun hS=>?_)
           generalize w7.drew=w8 at *;refine inI 0 ?_
           iterate 7
            refine stI (v:=?_) (by simp only [lkA,lkB,lkC];rfl) (by kernel_rfl) (fun _ _ _ h=>h) (by rfl) (by assumption) ?_ ?_
            rotate_left 1
            · intro w hSw
              go_simp
              with_reducible rfl
            simp only [Act.put,siA,siB,siC,Nat.reduceAdd]
           refine outI ?_;refine wpAnyH_ready (rs:=[7]) (by kernel_rfl) (by simp) ?_
           refine AllReadyH.cons (by simp only [lkA,lkB,lkC];rfl) (fun K hK=>?_) (AllReadyH.nil)
           refine step_copy_run (by rfl) (.tmp 84) (.tmp 87) 34 34 rfl (.slice (some ⟨g7,a+1,none⟩) 0 (c7 - (a+1))) (.slice (some ⟨g7,a,none⟩) 1 (c7 - a)) rfl rfl RC9.out ?_
           refine hK.out _ _ trivial (fun hS=>?_)
           clear hK K hS;refine wpAnyH_done (by kernel_rfl) ?_ _
           refine NoPanic.normal ?_;go_wp2;go_roundw
           case rel =>
            obtain ⟨z1,z2⟩:=RF9.out y;refine ⟨k+1,a+1,_,some ⟨g7,0,none⟩,rfl,by go_num,by omega,by omega,?_,?_,B7.out.trans z2⟩
            · show World.ownsRow _ _ _ _ _ _ _;rw [HS2.out];exact z1
            · show _=_;rw [HS2.out,List.length_append,List.length_cons,List.length_take,List.length_drop];have:=J2.out;omega
           case measure=>simp [intOf];omega
    · have qa:((ba (aheadL x)).toList == (ba s).toList)=false:=by rw [eqS,decide_eq_false hpa]
      have qb1:¬(ba (aheadL x)).toList=[]:=by rw [toList_tl,tl_ba];exact fun e=>hpa (e.trans HNE.out.symm)
      have qb2:(ba (aheadL x)).toList.isEmpty=false:=by simpa using qb1
      have HN1:=hid (HNX.out.trans (if_neg hpa));clear hpa;go_wp2;go_roundw
      case rel=>exact ⟨k+1,m,cc,A,rfl,by go_num,by omega,by omega,by show World.ownsRow _ _ _ _ _ _ _;rw [HN1.out,HYS.out];exact R5.out,by show _=_;rw [HN1.out,HYS.out];exact J2.out,B5.out⟩
      case measure=>simp [intOf];omega
  · have hlt':¬(k:Int) < (n:Int):=by omega
    have HT:Hid (L.take k=L):=by show _=_;exact List.take_of_length_le (by rw [HV.out.len];omega)
    go_wp2;go_ret2;rw [HE.out];have j1:=J1.out;have j2:=J2.out;rw [HT.out] at j1 j2;rw [←j2] at j1;obtain ⟨A9,c9,g9,e9,hn9⟩:=names_of_row j1;injection e9 with e9 _ e9c;subst e9 e9c;exact ⟨_,_,g9,(by rw [←j2];rfl),hn9,J3.out⟩
set_option maxHeartbeats 32000000 in
theorem rList_path (h:RDk own w r M) (s:By) (hs:s.length≤4000) (he:s≠[]) (hm:mayB s=true):Calls Tryz.prog 65 #[.pointer (some ⟨r,0,none⟩),kS s] w fun e w'=>ListP w (listM M.now s) e w':=by
 obtain ⟨i0,hi,hz0,hz1,hz2⟩:=info_parts Rf.infoStr;obtain ⟨tL,ts,sv,es,fused,left,h⟩:=h;have H:=hid h;have HSZ:=hid h.short;have HWF:=hid h.good.good.w1;have HSS:Hid (s.length≤4000):=hs;have CK:Hid (∀W,Below w.heap.size w W→Calls Tryz.prog 112 #[.pointer (some ⟨tL,0,none⟩),kS s] W fun e w'=>e=.returned (.int .i64 (kindP M.now s))∧W=w'):=fun W hb=>rKind_any (h.t1.tree.on hb) s (by have:=h.short;omega)
 obtain ⟨A0,n,c0',hv⟩:=h.t1.tree.view;have HV:=hid hv;have HLM:=hid (listM_kind HWF.out (s:=s) (.inr hm));obtain ⟨kk,HKK⟩:∃k,Hid (kindP M.now s=k):=⟨_,rfl⟩;rw [HKK.out] at CK HLM;obtain ⟨L,HLL⟩:∃L,Hid (M.now=L):=⟨_,rfl⟩;rw [HLL.out] at HWF HV HSZ HLM ⊢;have hn:n≤16384:=by rw [←HV.out.len];exact HSZ.out
 have HR0:=hid (h.low r h.op);have HRC:Hid (w.cell? ⟨r,0,none⟩=some (.pointer (some ⟨tL,0,none⟩))):=h.has.at_ 0;have B0:Hid (Below w.heap.size w w):=Below.refl _ _;have z1:¬(ba s).toList=[]:=by rw [toList_tl,tl_ba];exact he
 have z2:(ba s).toList.isEmpty=false:=by simpa using z1
 have HME:Hid (mayB s=true):=hm;have HNE:Hid (s≠[]):=he;have C2:Hid (∀W,Calls Tryz.prog 62 #[kS s] W fun e w'=>e=.returned (.bool true)∧Below W.heap.size W w'):=fun W=>Rf.rmay_v (ba s) true (by show mayB (tl (ba s))=_;rw [tl_ba];exact hm) W (by rw [ba_size];exact HSS.out)
 clear h hv hs hm he;go_enter Tryz.func65,Tryz.ntmps65
 go_wp2_with fail
 refine (C2.out _).mono ?_;rintro e2 w2 ⟨rfl,hb2⟩;have B2:Hid (Below w.heap.size w w2):=hb2;clear hb2;have c0:w2.cell? ⟨r,0,none⟩=some (.pointer (some ⟨tL,0,none⟩)):=(B2.out.cell (p:=⟨r,0,none⟩) HR0.out).trans HRC.out;go_wp2_with fail
 refine (CK.out _ B2.out).mono ?_;rintro e3 w3 ⟨rfl,rfl⟩;by_cases k0:kk=0
 · have q0:(kk == 0)=true:=by simpa using k0
   have HE:Hid (listM L s=([],5)):=by show _=_;rw [HLM.out,if_pos k0]
   clear k0;go_wp2;go_ret2;rw [HE.out];exact ListP.none _ _ _ B2.out
 have q0:(kk == 0)=false:=by simpa using k0
 by_cases k2:kk=2
 case neg =>
  have q1:(kk != 2)=true:=by simpa using k2
  have HE:Hid (listM L s=([],12)):=by show _=_;rw [HLM.out,if_neg k0,if_neg k2]
  clear k0 k2;go_wp2;go_ret2;rw [HE.out];exact ListP.none _ _ _ B2.out
 have q1:(kk != 2)=false:=by simp [k2]
 have HE:Hid (listM L s=(sortL (childR L s),0)):=by show _=_;rw [HLM.out,if_neg k0,if_pos k2]
 clear k0 k2 c0;go_wp2;go_loopw [7,8] (fun v7 v8 wr=>∃(k m cc:Nat) (A:Option Addr),v7=.slice A m cc∧v8=.int .i64 (k:Int)∧k≤n∧m≤k∧Hid (wr.ownsRow w.heap.size 9 1 (.slice A m cc) m ((sortL (childR (L.take k) s)).map kS))∧Hid ((sortL (childR (L.take k) s)).length=m)∧Hid (Below w.heap.size w wr)) (fun _ v8 _=>n - (intOf v8).toNat)
 case atStart =>
  have e0:sortL (childR (L.take 0) s)=[]:=by rw [List.take_zero];exact List.mergeSort_nil
  exact ⟨0,0,0,none,rfl,rfl,by omega,by omega,by show World.ownsRow _ _ _ _ _ _ _;rw [e0];exact World.ownsRow_nil _ _ _ _,by show _=_;rw [e0];rfl,B2.out⟩
 case round =>
  obtain ⟨k,m,cc,A,rfl,rfl,hk,hmk,J1,J2,J3⟩:=hrel;have c0:wr.cell? ⟨r,0,none⟩=some (.pointer (some ⟨tL,0,none⟩)):=(J3.out.cell (p:=⟨r,0,none⟩) HR0.out).trans HRC.out;have hvr:=HV.out.on J3.out;have d0:=hvr.c0;by_cases hlt:k < n
  · obtain ⟨g,hA,hat⟩:=hvr.row (by omega)
    subst hA;have hkl:k < L.length:=by rw [HV.out.len];exact hlt
    have d1:=(hat k hlt).c0;have hmx:mayB (L.getD k at0).1=true:=HWF.out.may _ (by rw [lookD HWF.out.srt hkl];rfl)
    have HNX:=hid (childR_next s hkl);obtain ⟨x,hx⟩:∃x,x=(L.getD k at0).1:=⟨_,rfl⟩;rw [←hx] at d1 hmx HNX;have HMX:=hid hmx;have hxl:x.length≤160:=(may_parts hmx).1;have CP:Hid (Calls Tryz.prog 113 #[kS x] wr fun e w'=>e=.returned (kS (aheadL x))∧Below wr.heap.size wr w'):=by
     have:=rparent9_any x (by omega) wr
     rw [findV_yes hmx] at this;exact this
    obtain ⟨ys,HYS⟩:∃ys,Hid (sortL (childR (L.take k) s)=ys):=⟨_,rfl⟩;rw [HYS.out] at J1 J2;have hlt':(k:Int) < (n:Int):=by omega
    have h0:(0:Int)≤(k:Int):=by omega
    have w1:IntKind.i64.wrap ((k:Int)+1)=(k:Int)+1:=i64in _ (by omega) (by omega)
    clear hat hmx hx hkl hvr;go_wp2_with fail
    refine CP.out.mono ?_;rintro e5 w5 ⟨rfl,hb5⟩;have B5:Hid (Below w.heap.size w w5):=J3.out.trans (hb5.mono J3.out.size);have R5:Hid (w5.ownsRow w.heap.size 9 1 (.slice A m cc) m (ys.map kS)):=row_of J1.out (fun g hg=>hb5.block g (World.ownsRow.lt J1.out g hg).2)
    clear hb5 c0 d0 d1;by_cases hpa:aheadL x=s
    · have qa:((ba (aheadL x)).toList == (ba s).toList)=true:=by rw [eqS,decide_eq_true hpa]
      have HPA:=hid hpa;have HN1:=hid (HNX.out.trans (if_pos hpa));clear hpa;have HXE:Hid (x=s++47 :: lastP x):=by
       show _=_
       rcases may_split HMX.out with ⟨z9,_⟩ | ⟨_,z9,_⟩
       · exact absurd (HPA.out.symm.trans z9) HNE.out
       · rw [HPA.out] at z9;exact z9
      have hxs:s.length+1≤x.length:=by rw [HXE.out];simp
      have zx:(ba x).size=x.length:=ba_size x;have zs:(ba s).size=s.length:=ba_size s;have zw:IntKind.i64.wrap ((s.length:Int)+1)=(s.length:Int)+1:=i64in _ (by have:=HSS.out;omega) (by have:=HSS.out;omega)
      have zn:((s.length:Int)+1).toNat=s.length+1:=by omega
      have zl:(s.length:Int)+1≤(x.length:Int):=by omega
      have zp:(0:Int)≤(s.length:Int)+1:=by omega
      have hcut:(ba x).extract (s.length+1) x.length=ba (nameR s x):=by rw [ba_cut];unfold nameR;rw [if_neg HNE.out]
      obtain ⟨y,HY⟩:∃y,Hid (nameR s x=y):=⟨_,rfl⟩;rw [HY.out] at HN1;have HSP:=hid (fun (a:Nat) (z0:a≤ys.length) (z1:∀i,i < a→ys.getD i [] < y) (z2:a < ys.length→¬ys.getD a [] < y)=>sort_put (xs:=childR (L.take k) s) (x:=y) HYS.out z0 z1 z2)
      rw [←HN1.out] at HSP;have N2:Hid (m+1≤maxLen):=by show _≤_;unfold maxLen;omega
      have N3:Hid ((m+1)*16≤140737488355328):=by show _≤_;omega
      have N4:Hid (∀o,w.heap.size≤(w5.alloc o).heap.size):=by intro o;have:=B5.out.size;simp;omega
      rw [HY.out] at hcut;go_wp2;go_loopw [10] (fun v10 wr2=>∃a:Nat,v10=.int .i64 (a:Int)∧a≤m∧Hid (∀i,i < a→ys.getD i [] < y)∧w5=wr2) (fun v10 _=>m - (intOf v10).toNat)
      case atStart=>exact ⟨0,rfl,by omega,fun i hi=>absurd hi (by omega),rfl⟩
      case round =>
       obtain ⟨a,rfl,ha,K1,rfl⟩:=hrel;have ha0:(0:Int)≤(a:Int):=by omega
       have w2:IntKind.i64.wrap ((a:Int)+1)=(a:Int)+1:=i64in _ (by omega) (by omega)
       by_cases h1:a < m
       · obtain ⟨g2,hA2,hg2,hmc,hcell⟩:=row_cells R5.out (by omega)
         subst hA2;have e1:=hcell a h1;have h1':(a:Int) < (m:Int):=by omega
         by_cases hz:ys.getD a [] < y
         · have qb:=less_yes hz
           have K2:Hid (∀i,i < a+1→ys.getD i [] < y):=fun i hi'=>by
            by_cases k9:i=a
            · rw [k9];exact hz
            · exact K1.out i (by omega)
           clear hcell hz;generalize ys.getD a []=z at e1 qb;go_wp2;go_roundw
           case rel=>exact ⟨a+1,by go_num,by omega,K2.out,trivial⟩
           case measure=>simp [intOf];omega
         · have qb:=less_no hz
           have HS2:Hid (sortL (childR (L.take (k+1)) s)=ys.take a++y :: ys.drop a):=HSP.out a (by have:=J2.out;omega) K1.out (fun _=>hz)
           clear hcell hz;generalize ys.getD a []=z at e1 qb;go_wp2_with (at_builtin;refine wpList_append_own _ rfl _ _ 34 rfl w.heap.size 9 i0 (.string ⟨#[]⟩) 1 16 Tryz.underlying34 hi hz0 hz1 hz2 rfl (by omega) _ _ _ rfl (R5.out.alloc _) ⟨w5.heap.size,0,none⟩ 1 1 [Value.string ⟨#[]⟩] rfl rfl (cell_one_new _ _ _) (Rf.S9_one _) N2.out N3.out (N4.out _) ?_;intro v7 w7 hown7 hgrow7 _)
           have HO7:Hid (w7.drew.ownsRow w.heap.size 9 1 v7 (m+1) ((ys++[[]]).map kS)):=by
            rw [List.map_append];exact row_of hown7 (fun _ _=>rfl)
           have B7:Hid (Below w.heap.size w w7.drew) :=
            ((B5.out.alloc B5.out.size _).grown hgrow7 (N4.out _) (fun g hg=>(World.ownsRow.lt R5.out g hg).1)).drew
           obtain ⟨g7,c7,rfl,hg7,hc7⟩:∃g7 c7,v7=.slice (some ⟨g7,0,none⟩) (m+1) c7∧w.heap.size≤g7∧m+1≤c7:=by
            rcases HO7.out.2 with ⟨_,z⟩ | ⟨g',c',cur,k1,k2,k3,k4,_⟩
            · omega
            · exact ⟨g',c',k1,k2,k4⟩
           have HG7:=hid hg7;clear hown7 hgrow7 hg7;have t1:((a:Int)+1).toNat=a+1:=by omega
           have t2:(a:Int)+1≤(((m+1:Nat):Int):Int):=by omega
           have t3:(0:Int)≤(a:Int)+1:=by omega
           have t4:(a:Int)≤(((m+1:Nat):Int):Int):=by omega
           have t5:(a:Int) < (((m+1:Nat):Int):Int):=by omega
           have t6:a≤m+1:=by omega
           have t7:(a:Int)≤(m:Int)+1:=by omega
           have t8:(a:Int) < (m:Int)+1:=by omega
           have t9:(a:Int)+1≤(m:Int)+1:=by omega
           have n1:¬c7=a+1:=by omega
           have n2:¬c7=a:=by omega
           obtain ⟨n9,w9,rc9,hc9,hf9,hs9,hr9⟩:=row_shift HO7.out J2.out ha (some ⟨g7,a+1,none⟩) (fun _=>rfl) 3
           have RC9:=hid rc9;have RF9:=hid hr9;clear rc9 hr9 hs9;go_wp2;refine wp_region_noPanic ?_;refine wp_region_held_drew (S:=fun _=>True) (by kernel_rfl) (trivial) (fun hS=>?_)
           generalize w7.drew=w8 at *;refine inI 0 ?_
           iterate 7
            refine stI (v:=?_) (by simp only [lkA,lkB,lkC];rfl) (by kernel_rfl) (fun _ _ _ h=>h) (by rfl) (by assumption) ?_ ?_
            rotate_left 1
            · intro w hSw
              go_simp
              with_reducible rfl
            simp only [Act.put,siA,siB,siC,Nat.reduceAdd]
           refine outI ?_;refine wpAnyH_ready (rs:=[7]) (by kernel_rfl) (by simp) ?_
           refine AllReadyH.cons (by simp only [lkA,lkB,lkC];rfl) (fun K hK=>?_) (AllReadyH.nil)
           refine step_copy_run (by rfl) (.tmp 84) (.tmp 87) 34 34 rfl (.slice (some ⟨g7,a+1,none⟩) (m - a) (c7 - (a+1))) (.slice (some ⟨g7,a,none⟩) (m+1 - a) (c7 - a)) rfl rfl RC9.out ?_
           refine hK.out _ _ trivial (fun hS=>?_)
           clear hK K hS;refine wpAnyH_done (by kernel_rfl) ?_ _
           refine NoPanic.normal ?_;go_wp2;go_roundw
           case rel =>
            obtain ⟨z1,z2⟩:=RF9.out y;refine ⟨k+1,m+1,_,some ⟨g7,0,none⟩,rfl,by go_num,by omega,by omega,?_,?_,B7.out.trans z2⟩
            · show World.ownsRow _ _ _ _ _ _ _;rw [HS2.out];exact z1
            · show _=_;rw [HS2.out,List.length_append,List.length_cons,List.length_take,List.length_drop];have:=J2.out;omega
           case measure=>simp [intOf];omega
       · obtain rfl:a=m:=by omega
         have h1':¬(a:Int) < (a:Int):=by omega
         have HS2:Hid (sortL (childR (L.take (k+1)) s)=ys.take a++y :: ys.drop a):=HSP.out a (by have:=J2.out;omega) K1.out (fun z9=>absurd z9 (by have:=J2.out;omega))
         go_wp2_with (at_builtin;refine wpList_append_own _ rfl _ _ 34 rfl w.heap.size 9 i0 (.string ⟨#[]⟩) 1 16 Tryz.underlying34 hi hz0 hz1 hz2 rfl (by omega) _ _ _ rfl (R5.out.alloc _) ⟨w5.heap.size,0,none⟩ 1 1 [Value.string ⟨#[]⟩] rfl rfl (cell_one_new _ _ _) (Rf.S9_one _) N2.out N3.out (N4.out _) ?_;intro v7 w7 hown7 hgrow7 _)
         have HO7:Hid (w7.drew.ownsRow w.heap.size 9 1 v7 (a+1) ((ys++[[]]).map kS)):=by
            rw [List.map_append];exact row_of hown7 (fun _ _=>rfl)
         have B7:Hid (Below w.heap.size w w7.drew) :=
            ((B5.out.alloc B5.out.size _).grown hgrow7 (N4.out _) (fun g hg=>(World.ownsRow.lt R5.out g hg).1)).drew
         obtain ⟨g7,c7,rfl,hg7,hc7⟩:∃g7 c7,v7=.slice (some ⟨g7,0,none⟩) (a+1) c7∧w.heap.size≤g7∧a+1≤c7:=by
            rcases HO7.out.2 with ⟨_,z⟩ | ⟨g',c',cur,k1,k2,k3,k4,_⟩
            · omega
            · exact ⟨g',c',k1,k2,k4⟩
         have HG7:=hid hg7;clear hown7 hgrow7 hg7;have t1:((a:Int)+1).toNat=a+1:=by omega
         have t2:(a:Int)+1≤(((a+1:Nat):Int):Int):=by omega
         have t3:(0:Int)≤(a:Int)+1:=by omega
         have t4:(a:Int)≤(((a+1:Nat):Int):Int):=by omega
         have t5:(a:Int) < (((a+1:Nat):Int):Int):=by omega
         have t6:a≤a+1:=by omega
         have t7:(a:Int)≤(a:Int)+1:=by omega
         have t8:(a:Int) < (a:Int)+1:=by omega
         have t9:(a:Int)+1≤(a:Int)+1:=by omega
         have n2:¬c7=a:=by omega
         by_cases n1:c7=a+1
         · subst n1
           obtain ⟨n9,w9,rc9,hc9,hf9,hs9,hr9⟩:=row_shift HO7.out J2.out ha (some ⟨g7,0,none⟩) (fun z=>absurd z (by omega)) 3
           simp only [Nat.sub_self,Nat.add_sub_cancel_left] at rc9;have RC9:=hid rc9;have RF9:=hid hr9;clear rc9 hr9 hs9;go_wp2;refine wp_region_noPanic ?_;refine wp_region_held_drew (S:=fun _=>True) (by kernel_rfl) (trivial) (fun hS=>?_)
           generalize w7.drew=w8 at *;refine inI 0 ?_
           iterate 7
            refine stI (v:=?_) (by simp only [lkA,lkB,lkC];rfl) (by kernel_rfl) (fun _ _ _ h=>h) (by rfl) (by assumption) ?_ ?_
            rotate_left 1
            · intro w hSw
              go_simp
              with_reducible rfl
            simp only [Act.put,siA,siB,siC,Nat.reduceAdd]
           refine outI ?_;refine wpAnyH_ready (rs:=[7]) (by kernel_rfl) (by simp) ?_
           refine AllReadyH.cons (by simp only [lkA,lkB,lkC];rfl) (fun K hK=>?_) (AllReadyH.nil)
           refine step_copy_run (by rfl) (.tmp 84) (.tmp 87) 34 34 rfl (.slice (some ⟨g7,0,none⟩) 0 0) (.slice (some ⟨g7,a,none⟩) 1 1) rfl rfl RC9.out ?_
           refine hK.out _ _ trivial (fun hS=>?_)
           clear hK K hS;refine wpAnyH_done (by kernel_rfl) ?_ _
           refine NoPanic.normal ?_;go_wp2;go_roundw
           case rel =>
            obtain ⟨z1,z2⟩:=RF9.out y;refine ⟨k+1,a+1,_,some ⟨g7,0,none⟩,rfl,by go_num,by omega,by omega,?_,?_,B7.out.trans z2⟩
            · show World.ownsRow _ _ _ _ _ _ _;rw [HS2.out];exact z1
            · show _=_;rw [HS2.out,List.length_append,List.length_cons,List.length_take,List.length_drop];have:=J2.out;omega
           case measure=>simp [intOf];omega
         · obtain ⟨n9,w9,rc9,hc9,hf9,hs9,hr9⟩:=row_shift HO7.out J2.out ha (some ⟨g7,a+1,none⟩) (fun z=>absurd z (by omega)) 3
           simp only [Nat.sub_self,Nat.add_sub_cancel_left] at rc9;have RC9:=hid rc9;have RF9:=hid hr9;clear rc9 hr9 hs9;go_wp2;refine wp_region_noPanic ?_;refine wp_region_held_drew (S:=fun _=>True) (by kernel_rfl) (trivial) (fun hS=>?_)
           generalize w7.drew=w8 at *;refine inI 0 ?_
           iterate 7
            refine stI (v:=?_) (by simp only [lkA,lkB,lkC];rfl) (by kernel_rfl) (fun _ _ _ h=>h) (by rfl) (by assumption) ?_ ?_
            rotate_left 1
            · intro w hSw
              go_simp
              with_reducible rfl
            simp only [Act.put,siA,siB,siC,Nat.reduceAdd]
           refine outI ?_;refine wpAnyH_ready (rs:=[7]) (by kernel_rfl) (by simp) ?_
           refine AllReadyH.cons (by simp only [lkA,lkB,lkC];rfl) (fun K hK=>?_) (AllReadyH.nil)
           refine step_copy_run (by rfl) (.tmp 84) (.tmp 87) 34 34 rfl (.slice (some ⟨g7,a+1,none⟩) 0 (c7 - (a+1))) (.slice (some ⟨g7,a,none⟩) 1 (c7 - a)) rfl rfl RC9.out ?_
           refine hK.out _ _ trivial (fun hS=>?_)
           clear hK K hS;refine wpAnyH_done (by kernel_rfl) ?_ _
           refine NoPanic.normal ?_;go_wp2;go_roundw
           case rel =>
            obtain ⟨z1,z2⟩:=RF9.out y;refine ⟨k+1,a+1,_,some ⟨g7,0,none⟩,rfl,by go_num,by omega,by omega,?_,?_,B7.out.trans z2⟩
            · show World.ownsRow _ _ _ _ _ _ _;rw [HS2.out];exact z1
            · show _=_;rw [HS2.out,List.length_append,List.length_cons,List.length_take,List.length_drop];have:=J2.out;omega
           case measure=>simp [intOf];omega
    · have qa:((ba (aheadL x)).toList == (ba s).toList)=false:=by rw [eqS,decide_eq_false hpa]
      have HN1:=hid (HNX.out.trans (if_neg hpa));clear hpa;go_wp2;go_roundw
      case rel=>exact ⟨k+1,m,cc,A,rfl,by go_num,by omega,by omega,by show World.ownsRow _ _ _ _ _ _ _;rw [HN1.out,HYS.out];exact R5.out,by show _=_;rw [HN1.out,HYS.out];exact J2.out,B5.out⟩
      case measure=>simp [intOf];omega
  · have hlt':¬(k:Int) < (n:Int):=by omega
    have HT:Hid (L.take k=L):=by show _=_;exact List.take_of_length_le (by rw [HV.out.len];omega)
    go_wp2;go_ret2;rw [HE.out];have j1:=J1.out;have j2:=J2.out;rw [HT.out] at j1 j2;rw [←j2] at j1;obtain ⟨A9,c9,g9,e9,hn9⟩:=names_of_row j1;injection e9 with e9 _ e9c;subst e9 e9c;exact ⟨_,_,g9,(by rw [←j2];rfl),hn9,J3.out⟩
theorem rList_any (h:RDk own w r M) (s:By) (hs:s.length≤4000):Calls Tryz.prog 65 #[.pointer (some ⟨r,0,none⟩),kS s] w fun e w'=>ListP w (listM M.now s) e w':=by
 by_cases he:s=[]
 · exact rList_root h s hs he
 · cases hm:mayB s with
   | false=>exact rList_no s hs he hm
   | true=>exact rList_path h s hs he hm
end
end Go.Proofs.YtahkcemdbfjilaaGreatDoor
