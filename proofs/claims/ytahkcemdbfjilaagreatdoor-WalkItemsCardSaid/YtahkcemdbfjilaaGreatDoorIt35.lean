/- Several texts in one. Conditions: those said at each. -/
import Derived.Test.YtahkcemdbfjilaaGreatDoorIt00
import Derived.Test.YtahkcemdbfjilaaGreatDoorIt34
set_option linter.unusedSimpArgs false
set_option linter.unusedVariables false
set_option maxRecDepth 100000
namespace Go.Proofs.YtahkcemdbfjilaaGreatDoor
open Go.RowKit Go.Maps
def sumP (xs:List PutT):Nat:=(xs.map fun x=>x.text.length+20*x.p.length).sum
def sumT (fs:Glob.Fl):Nat:=(fs.map fun f=>f.2.length+f.1.length).sum
theorem sumP_snoc (xs:List PutT) (x:PutT):sumP (xs++[x])=sumP xs+(x.text.length+20*x.p.length):=by simp [sumP]
theorem sumT_snoc (fs:Glob.Fl) (f:By × By):sumT (fs++[f])=sumT fs+(f.2.length+f.1.length):=by simp [sumT]
def largeB (xs:List PutT) (fs:Glob.Fl):Bool:=decide (40 < xs.length)||decide (10 < fs.length)||decide (8000 < sumP (xs.take 50)+sumT (fs.take 50))
theorem sumP_mem {xs:List PutT} {x:PutT} (h:x∈xs):x.text.length+20*x.p.length≤sumP xs:=by
 induction xs with
 | nil=>cases h
 | cons y xs ih =>
  have e:sumP (y :: xs)=(y.text.length+20*y.p.length)+sumP xs:=by simp [sumP]
  rcases List.mem_cons.1 h with k | k
  · subst k;omega
  · have:=ih k;omega
theorem sumT_mem {fs:Glob.Fl} {f:By × By} (h:f∈fs):f.2.length+f.1.length≤sumT fs:=by
 induction fs with
 | nil=>cases h
 | cons y xs ih =>
  have e:sumT (y :: xs)=(y.2.length+y.1.length)+sumT xs:=by simp [sumT]
  rcases List.mem_cons.1 h with k | k
  · subst k;omega
  · have:=ih k;omega
theorem large_false {xs:List PutT} {fs:Glob.Fl} (h:largeB xs fs=false):xs.length≤40∧fs.length≤10∧(∀x∈xs,x.p.length≤400∧x.text.length≤8000)∧∀f∈fs,f.1.length≤8000∧f.2.length≤8000:=by
 unfold largeB at h;simp only [Bool.or_eq_false_iff,decide_eq_false_iff_not] at h;obtain ⟨⟨h1,h2⟩,h3⟩:=h;rw [List.take_of_length_le (by omega),List.take_of_length_le (by omega)] at h3
 refine ⟨by omega,by omega,fun x hx=>?_,fun f hf=>?_⟩
 · have:=sumP_mem hx;omega
 · have:=sumT_mem hf;omega
theorem sumP_le {xs:List PutT} {c:Nat} (h:∀x∈xs,x.text.length+20*x.p.length≤c):sumP xs≤xs.length*c:=by
 induction xs with
 | nil=>simp [sumP]
 | cons y xs ih =>
  have e:sumP (y :: xs)=(y.text.length+20*y.p.length)+sumP xs:=by simp [sumP]
  have h1:=h y List.mem_cons_self;have h2:=ih fun x hx=>h x (List.mem_cons_of_mem _ hx)
  rw [e,List.length_cons,Nat.add_mul];omega
theorem sumT_le {fs:Glob.Fl} {c:Nat} (h:∀f∈fs,f.2.length+f.1.length≤c):sumT fs≤fs.length*c:=by
 induction fs with
 | nil=>simp [sumT]
 | cons y xs ih =>
  have e:sumT (y :: xs)=(y.2.length+y.1.length)+sumT xs:=by simp [sumT]
  have h1:=h y List.mem_cons_self;have h2:=ih fun x hx=>h x (List.mem_cons_of_mem _ hx)
  rw [e,List.length_cons,Nat.add_mul];omega
theorem sumP_take {xs:List PutT} (h:∀x∈xs,PutOk x) (k:Nat) (hk:k≤50):sumP (xs.take k)≤200000000000000000:=by
 have h1:=sumP_le (xs:=xs.take k) (c:=3000000000000000) fun x hx=>by
  have h1:=h x (List.mem_of_mem_take hx);have h2:=h1.p;have h3:=h1.text;omega
 have h2:(xs.take k).length*3000000000000000≤50*3000000000000000:=Nat.mul_le_mul_right _ (by rw [List.length_take];omega)
 exact Nat.le_trans h1 (Nat.le_trans h2 (by decide))
theorem sumT_take {fs:Glob.Fl} (h:∀f∈fs,f.1.length≤140737488351232∧f.2.length≤140737488351232) (k:Nat) (hk:k≤50):sumT (fs.take k)≤200000000000000000:=by
 have h1:=sumT_le (fs:=fs.take k) (c:=3000000000000000) fun x hx=>by
  have h1:=h x (List.mem_of_mem_take hx);omega
 have h2:(fs.take k).length*3000000000000000≤50*3000000000000000:=Nat.mul_le_mul_right _ (by rw [List.length_take];omega)
 exact Nat.le_trans h1 (Nat.le_trans h2 (by decide))
set_option maxHeartbeats 8000000 in
theorem large_any {A A2:Option Addr} {n n2 cap cap2 bb bb2 off off2:Nat} {xs:List PutT} {fs:Glob.Fl} (w:World) (hI:PutsIn w A n bb off xs) (hF:Glob.FilesAt w A2 n2 bb2 off2 fs) (hfb:∀f∈fs,f.1.length≤140737488351232∧f.2.length≤140737488351232) (hn:n≤maxLen) (hn2:n2≤maxLen) :
 Calls Tryz.prog 8 #[.slice A n cap,.slice A2 n2 cap2] w fun e w'=>e=.returned (.bool (largeB xs fs))∧Below w.heap.size w w':=by
 have H:=hid hI;have HF:=hid hF;have HLEN:=hid hI.len;have HLN2:=hid hF.len;have hnb:(n:Int)≤9223372036854775807:=by unfold maxLen at hn;omega
 have hnb2:(n2:Int)≤9223372036854775807:=by unfold maxLen at hn2;omega
 have HS1:=hid (fun k hk=>sumP_take hI.ok k hk)
 have HS2:=hid (fun k hk=>sumT_take hfb k hk)
 have HFB:=hid hfb;clear hI hF hfb;go_enter Tryz.func8,Tryz.ntmps8
 go_wp2;go_loopw [5,6] (fun v5 v6 wr=>∃k m:Nat,v6=.int .i64 (k:Int)∧v5=.int .i64 (m:Int)∧k≤n∧k≤50∧Hid (sumP (xs.take k)=m)∧Hid (Below w.heap.size w wr)) (fun _ v6 _=>n - (intOf v6).toNat)
 case atStart=>exact ⟨0,0,rfl,rfl,by omega,by omega,rfl,Below.refl _ _⟩
 case round =>
  obtain ⟨k,m,rfl,rfl,hk,hkm,J1,J2⟩:=hrel;have hmb:m≤200000000000000000:=by rw [←J1.out];exact HS1.out k hkm
  by_cases hlt:k < n
  · by_cases hle:k < 50
    · have hA:=(H.out.src (by omega)).1
      subst hA;have hkl:k < xs.length:=by rw [HLEN.out];exact hlt
      have HX:=hid ((H.out.at_ k hlt).on J2.out);have HOK:=hid (H.out.ok _ (put_mem hkl));have HN:Hid (sumP (xs.take (k+1))=m+((xs.getD k put0).text.length+20*(xs.getD k put0).p.length)):=by
       show _=_
       rw [List.take_succ_eq_append_getElem hkl,sumP_snoc,J1.out,List.getD,List.getElem?_eq_getElem hkl];rfl
      generalize xs.getD k put0=x at HX HOK HN;obtain ⟨kd,P,T,lg,tm⟩:=x;have zp:=HOK.out.p;have zt:=HOK.out.text;simp only at zp zt;dsimp only at HN;have e1:(ba P).size=P.length:=ba_size P;have e3:(ba T).size=T.length:=ba_size T;have w1:IntKind.i64.wrap ((k:Int)+1)=(k:Int)+1:=i64in _ (by omega) (by omega)
      have w2:IntKind.i64.wrap (20*(P.length:Int))=20*(P.length:Int):=i64in _ (by omega) (by omega)
      have w3:IntKind.i64.wrap ((m:Int)+(T.length:Int))=(m:Int)+(T.length:Int):=i64in _ (by omega) (by omega)
      have w4:IntKind.i64.wrap ((m:Int)+(T.length:Int)+20*(P.length:Int))=(m:Int)+(T.length:Int)+20*(P.length:Int):=i64in _ (by omega) (by omega)
      have hlt':(k:Int) < (n:Int):=by omega
      have hle':(k:Int) < 50:=by omega
      have h0:(0:Int)≤(k:Int):=by omega
      have HXd:Hid (PutAt wr.drew bb (off+k*5) ⟨kd,P,T,lg,tm⟩):=HX.out.on (Below.refl _ _).drew;clear HOK;go_wp2;refine wp_region_noPanic ?_;refine wp_region_held_drew (S:=fun W=>PutAt W bb (off+k*5) ⟨kd,P,T,lg,tm⟩) (by kernel_rfl) (HXd.out) (fun hS=>?_)
      refine inI 0 ?_
      iterate 17
       refine stI (v:=?_) (by simp only [lkA,lkB,lkC];rfl) (by kernel_rfl) (fun _ _ _ h=>h) (by rfl) (by assumption) ?_ ?_
       rotate_left 1
       · intro w hSw
         have c1:=hSw.c1;have c2:=hSw.c2;go_simp
         with_reducible rfl
       simp only [Act.put,siA,siB,siC,Nat.reduceAdd]
      refine outI ?_;refine wpAnyH_done (by kernel_rfl) ?_ _
      refine NoPanic.normal ?_;go_wp2;go_roundw
      case rel=>exact ⟨k+1,m+(T.length+20*P.length),by go_num,by congr 1;omega,by omega,by omega,HN.out,J2.out.drew⟩
      case measure=>simp [intOf];omega
    · have hgt:¬(k:Int) < 50:=by omega
      have hlt':(k:Int) < (n:Int):=by omega
      have HE:Hid (sumP (xs.take 50)=m):=by show _=_;rw [←J1.out,show k=50 by omega]
      have hmb2:m≤200000000000000000:=hmb;clear hmb;go_wp2;obtain ⟨wA,rfl⟩:∃wA,wA=wr:=⟨_,rfl⟩;go_loopw [5,7] (fun v5 v7 wr=>∃k m2:Nat,v7=.int .i64 (k:Int)∧v5=.int .i64 (m2:Int)∧k≤n2∧k≤50∧Hid (m+sumT (fs.take k)=m2)∧Hid (Below w.heap.size w wr)) (fun _ v7 _=>n2 - (intOf v7).toNat)
      case atStart=>exact ⟨0,m,rfl,rfl,by omega,by omega,rfl,J2.out⟩
      case round =>
       obtain ⟨k,m2,rfl,rfl,hk,hkm,K1,K2⟩:=hrel;have hmb:m2≤400000000000000000:=by have:=K1.out;have:=HS2.out k hkm;omega
       by_cases hlt2:k < n2
       · by_cases hle2:k < 50
         · have hA:=(HF.out.src (by omega)).1
           subst hA;have hkl:k < fs.length:=by rw [HLN2.out];exact hlt2
           have hbb:=(HF.out.src (by omega)).2
           have HX:Hid (wr.cell? ⟨bb2,off2+k*2,none⟩=some (.string (ba fs[k].1))∧wr.cell? ⟨bb2,off2+k*2+1,none⟩=some (.string (ba fs[k].2))) :=
            ⟨(K2.out.cell (p:=⟨bb2,off2+k*2,none⟩) hbb).trans (HF.out.at_ k hkl).1,(K2.out.cell (p:=⟨bb2,off2+k*2+1,none⟩) hbb).trans (HF.out.at_ k hkl).2⟩
           have HOK:=HFB.out _ (List.getElem_mem hkl);have HN:Hid (m+sumT (fs.take (k+1))=m2+(fs[k].2.length+fs[k].1.length)):=by
            show _=_
            rw [List.take_succ_eq_append_getElem hkl,sumT_snoc,←K1.out];omega
           generalize fs[k]=x at HX HOK HN;obtain ⟨P,T⟩:=x;dsimp only at HN HOK HX;obtain ⟨zp,zt⟩:=HOK;have e1:(ba P).size=P.length:=ba_size P;have e3:(ba T).size=T.length:=ba_size T;have w1:IntKind.i64.wrap ((k:Int)+1)=(k:Int)+1:=i64in _ (by omega) (by omega)
           have w3:IntKind.i64.wrap ((m2:Int)+(T.length:Int))=(m2:Int)+(T.length:Int):=i64in _ (by omega) (by omega)
           have w4:IntKind.i64.wrap ((m2:Int)+(T.length:Int)+(P.length:Int))=(m2:Int)+(T.length:Int)+(P.length:Int):=i64in _ (by omega) (by omega)
           have hlt2':(k:Int) < (n2:Int):=by omega
           have hle2':(k:Int) < 50:=by omega
           have h02:(0:Int)≤(k:Int):=by omega
           have HXd:Hid (wr.drew.cell? ⟨bb2,off2+k*2,none⟩=some (.string (ba P))∧wr.drew.cell? ⟨bb2,off2+k*2+1,none⟩=some (.string (ba T))):=HX.out;go_wp2;refine wp_region_noPanic ?_;refine wp_region_held_drew (S:=fun W=>W.cell? ⟨bb2,off2+k*2,none⟩=some (.string (ba P))∧W.cell? ⟨bb2,off2+k*2+1,none⟩=some (.string (ba T))) (by kernel_rfl) (HXd.out) (fun hS=>?_)
           refine inI 0 ?_
           iterate 16
            refine stI (v:=?_) (by simp only [lkA,lkB,lkC];rfl) (by kernel_rfl) (fun _ _ _ h=>h) (by rfl) (by assumption) ?_ ?_
            rotate_left 1
            · intro w hSw
              have c1:=hSw.1;have c2:=hSw.2;go_simp
              with_reducible rfl
            simp only [Act.put,siA,siB,siC,Nat.reduceAdd]
           refine outI ?_;refine wpAnyH_done (by kernel_rfl) ?_ _
           refine NoPanic.normal ?_;go_wp2;go_roundw
           case rel=>exact ⟨k+1,m2+(T.length+P.length),by go_num,by congr 1;omega,by omega,by omega,HN.out,K2.out.drew⟩
           case measure=>simp [intOf];omega
         · have hgt2:¬(k:Int) < 50:=by omega
           have hlt2':(k:Int) < (n2:Int):=by omega
           have HE2:Hid (sumP (xs.take 50)+sumT (fs.take 50)=m2):=by show _=_;rw [←K1.out,HE.out,show k=50 by omega]
           have HB:Hid (largeB xs fs=(decide (40 < n)||decide (10 < n2)||decide (8000 < m2))):=by show _=_;unfold largeB;rw [HE2.out,HLEN.out,HLN2.out]
           by_cases f1:40 < n
           · have f1':(40:Int) < (n:Int):=by omega
             have HR:Hid (largeB xs fs=true):=by show _=_;rw [HB.out,decide_eq_true f1];rfl
             go_wp2;go_ret;exact ⟨by rw [HR.out];rfl,K2.out⟩
           · have f1':¬(40:Int) < (n:Int):=by omega
             by_cases f2:10 < n2
             · have f2':(10:Int) < (n2:Int):=by omega
               have HR:Hid (largeB xs fs=true):=by show _=_;rw [HB.out,decide_eq_true f2];simp
               go_wp2;go_ret;exact ⟨by rw [HR.out];rfl,K2.out⟩
             · have f2':¬(10:Int) < (n2:Int):=by omega
               by_cases f3:8000 < m2
               · have f3':(8000:Int) < (m2:Int):=by omega
                 have HR:Hid (largeB xs fs=true):=by show _=_;rw [HB.out,decide_eq_true f3];simp
                 go_wp2;go_ret;exact ⟨by rw [HR.out];rfl,K2.out⟩
               · have f3':¬(8000:Int) < (m2:Int):=by omega
                 have HR:Hid (largeB xs fs=false):=by show _=_;rw [HB.out,decide_eq_false f1,decide_eq_false f2,decide_eq_false f3];rfl
                 go_wp2;go_ret;exact ⟨by rw [HR.out];rfl,K2.out⟩
       · have HE2:Hid (sumP (xs.take 50)+sumT (fs.take 50)=m2):=by show _=_;rw [←K1.out,HE.out,List.take_of_length_le (by rw [HLN2.out];omega),List.take_of_length_le (by rw [HLN2.out];omega)]
         have hgt2:¬(k:Int) < (n2:Int):=by omega
         have HB:Hid (largeB xs fs=(decide (40 < n)||decide (10 < n2)||decide (8000 < m2))):=by show _=_;unfold largeB;rw [HE2.out,HLEN.out,HLN2.out]
         by_cases f1:40 < n
         · have f1':(40:Int) < (n:Int):=by omega
           have HR:Hid (largeB xs fs=true):=by show _=_;rw [HB.out,decide_eq_true f1];rfl
           go_wp2;go_ret;exact ⟨by rw [HR.out];rfl,K2.out⟩
         · have f1':¬(40:Int) < (n:Int):=by omega
           by_cases f2:10 < n2
           · have f2':(10:Int) < (n2:Int):=by omega
             have HR:Hid (largeB xs fs=true):=by show _=_;rw [HB.out,decide_eq_true f2];simp
             go_wp2;go_ret;exact ⟨by rw [HR.out];rfl,K2.out⟩
           · have f2':¬(10:Int) < (n2:Int):=by omega
             by_cases f3:8000 < m2
             · have f3':(8000:Int) < (m2:Int):=by omega
               have HR:Hid (largeB xs fs=true):=by show _=_;rw [HB.out,decide_eq_true f3];simp
               go_wp2;go_ret;exact ⟨by rw [HR.out];rfl,K2.out⟩
             · have f3':¬(8000:Int) < (m2:Int):=by omega
               have HR:Hid (largeB xs fs=false):=by show _=_;rw [HB.out,decide_eq_false f1,decide_eq_false f2,decide_eq_false f3];rfl
               go_wp2;go_ret;exact ⟨by rw [HR.out];rfl,K2.out⟩
  · have HE:Hid (sumP (xs.take 50)=m):=by show _=_;rw [←J1.out,List.take_of_length_le (by rw [HLEN.out];omega),List.take_of_length_le (by rw [HLEN.out];omega)]
    have hmb2:m≤200000000000000000:=hmb;have hgt:¬(k:Int) < (n:Int):=by omega
    clear hmb;go_wp2;obtain ⟨wA,rfl⟩:∃wA,wA=wr:=⟨_,rfl⟩;go_loopw [5,7] (fun v5 v7 wr=>∃k m2:Nat,v7=.int .i64 (k:Int)∧v5=.int .i64 (m2:Int)∧k≤n2∧k≤50∧Hid (m+sumT (fs.take k)=m2)∧Hid (Below w.heap.size w wr)) (fun _ v7 _=>n2 - (intOf v7).toNat)
    case atStart=>exact ⟨0,m,rfl,rfl,by omega,by omega,rfl,J2.out⟩
    case round =>
     obtain ⟨k,m2,rfl,rfl,hk,hkm,K1,K2⟩:=hrel;have hmb:m2≤400000000000000000:=by have:=K1.out;have:=HS2.out k hkm;omega
     by_cases hlt2:k < n2
     · by_cases hle2:k < 50
       · have hA:=(HF.out.src (by omega)).1
         subst hA;have hkl:k < fs.length:=by rw [HLN2.out];exact hlt2
         have hbb:=(HF.out.src (by omega)).2
         have HX:Hid (wr.cell? ⟨bb2,off2+k*2,none⟩=some (.string (ba fs[k].1))∧wr.cell? ⟨bb2,off2+k*2+1,none⟩=some (.string (ba fs[k].2))) :=
          ⟨(K2.out.cell (p:=⟨bb2,off2+k*2,none⟩) hbb).trans (HF.out.at_ k hkl).1,(K2.out.cell (p:=⟨bb2,off2+k*2+1,none⟩) hbb).trans (HF.out.at_ k hkl).2⟩
         have HOK:=HFB.out _ (List.getElem_mem hkl);have HN:Hid (m+sumT (fs.take (k+1))=m2+(fs[k].2.length+fs[k].1.length)):=by
          show _=_
          rw [List.take_succ_eq_append_getElem hkl,sumT_snoc,←K1.out];omega
         generalize fs[k]=x at HX HOK HN;obtain ⟨P,T⟩:=x;dsimp only at HN HOK HX;obtain ⟨zp,zt⟩:=HOK;have e1:(ba P).size=P.length:=ba_size P;have e3:(ba T).size=T.length:=ba_size T;have w1:IntKind.i64.wrap ((k:Int)+1)=(k:Int)+1:=i64in _ (by omega) (by omega)
         have w3:IntKind.i64.wrap ((m2:Int)+(T.length:Int))=(m2:Int)+(T.length:Int):=i64in _ (by omega) (by omega)
         have w4:IntKind.i64.wrap ((m2:Int)+(T.length:Int)+(P.length:Int))=(m2:Int)+(T.length:Int)+(P.length:Int):=i64in _ (by omega) (by omega)
         have hlt2':(k:Int) < (n2:Int):=by omega
         have hle2':(k:Int) < 50:=by omega
         have h02:(0:Int)≤(k:Int):=by omega
         have HXd:Hid (wr.drew.cell? ⟨bb2,off2+k*2,none⟩=some (.string (ba P))∧wr.drew.cell? ⟨bb2,off2+k*2+1,none⟩=some (.string (ba T))):=HX.out;go_wp2;refine wp_region_noPanic ?_;refine wp_region_held_drew (S:=fun W=>W.cell? ⟨bb2,off2+k*2,none⟩=some (.string (ba P))∧W.cell? ⟨bb2,off2+k*2+1,none⟩=some (.string (ba T))) (by kernel_rfl) (HXd.out) (fun hS=>?_)
         refine inI 0 ?_
         iterate 16
          refine stI (v:=?_) (by simp only [lkA,lkB,lkC];rfl) (by kernel_rfl) (fun _ _ _ h=>h) (by rfl) (by assumption) ?_ ?_
          rotate_left 1
          · intro w hSw
            have c1:=hSw.1;have c2:=hSw.2;go_simp
            with_reducible rfl
          simp only [Act.put,siA,siB,siC,Nat.reduceAdd]
         refine outI ?_;refine wpAnyH_done (by kernel_rfl) ?_ _
         refine NoPanic.normal ?_;go_wp2;go_roundw
         case rel=>exact ⟨k+1,m2+(T.length+P.length),by go_num,by congr 1;omega,by omega,by omega,HN.out,K2.out.drew⟩
         case measure=>simp [intOf];omega
       · have hgt2:¬(k:Int) < 50:=by omega
         have hlt2':(k:Int) < (n2:Int):=by omega
         have HE2:Hid (sumP (xs.take 50)+sumT (fs.take 50)=m2):=by show _=_;rw [←K1.out,HE.out,show k=50 by omega]
         have HB:Hid (largeB xs fs=(decide (40 < n)||decide (10 < n2)||decide (8000 < m2))):=by show _=_;unfold largeB;rw [HE2.out,HLEN.out,HLN2.out]
         by_cases f1:40 < n
         · have f1':(40:Int) < (n:Int):=by omega
           have HR:Hid (largeB xs fs=true):=by show _=_;rw [HB.out,decide_eq_true f1];rfl
           go_wp2;go_ret;exact ⟨by rw [HR.out];rfl,K2.out⟩
         · have f1':¬(40:Int) < (n:Int):=by omega
           by_cases f2:10 < n2
           · have f2':(10:Int) < (n2:Int):=by omega
             have HR:Hid (largeB xs fs=true):=by show _=_;rw [HB.out,decide_eq_true f2];simp
             go_wp2;go_ret;exact ⟨by rw [HR.out];rfl,K2.out⟩
           · have f2':¬(10:Int) < (n2:Int):=by omega
             by_cases f3:8000 < m2
             · have f3':(8000:Int) < (m2:Int):=by omega
               have HR:Hid (largeB xs fs=true):=by show _=_;rw [HB.out,decide_eq_true f3];simp
               go_wp2;go_ret;exact ⟨by rw [HR.out];rfl,K2.out⟩
             · have f3':¬(8000:Int) < (m2:Int):=by omega
               have HR:Hid (largeB xs fs=false):=by show _=_;rw [HB.out,decide_eq_false f1,decide_eq_false f2,decide_eq_false f3];rfl
               go_wp2;go_ret;exact ⟨by rw [HR.out];rfl,K2.out⟩
     · have HE2:Hid (sumP (xs.take 50)+sumT (fs.take 50)=m2):=by show _=_;rw [←K1.out,HE.out,List.take_of_length_le (by rw [HLN2.out];omega),List.take_of_length_le (by rw [HLN2.out];omega)]
       have hgt2:¬(k:Int) < (n2:Int):=by omega
       have HB:Hid (largeB xs fs=(decide (40 < n)||decide (10 < n2)||decide (8000 < m2))):=by show _=_;unfold largeB;rw [HE2.out,HLEN.out,HLN2.out]
       by_cases f1:40 < n
       · have f1':(40:Int) < (n:Int):=by omega
         have HR:Hid (largeB xs fs=true):=by show _=_;rw [HB.out,decide_eq_true f1];rfl
         go_wp2;go_ret;exact ⟨by rw [HR.out];rfl,K2.out⟩
       · have f1':¬(40:Int) < (n:Int):=by omega
         by_cases f2:10 < n2
         · have f2':(10:Int) < (n2:Int):=by omega
           have HR:Hid (largeB xs fs=true):=by show _=_;rw [HB.out,decide_eq_true f2];simp
           go_wp2;go_ret;exact ⟨by rw [HR.out];rfl,K2.out⟩
         · have f2':¬(10:Int) < (n2:Int):=by omega
           by_cases f3:8000 < m2
           · have f3':(8000:Int) < (m2:Int):=by omega
             have HR:Hid (largeB xs fs=true):=by show _=_;rw [HB.out,decide_eq_true f3];simp
             go_wp2;go_ret;exact ⟨by rw [HR.out];rfl,K2.out⟩
           · have f3':¬(8000:Int) < (m2:Int):=by omega
             have HR:Hid (largeB xs fs=false):=by show _=_;rw [HB.out,decide_eq_false f1,decide_eq_false f2,decide_eq_false f3];rfl
             go_wp2;go_ret;exact ⟨by rw [HR.out];rfl,K2.out⟩
end Go.Proofs.YtahkcemdbfjilaaGreatDoor
