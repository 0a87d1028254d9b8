/- Several texts in one. Conditions: those said at each. -/
import Derived.Test.YtahkcemdbfjilaaGreatDoorIt00
import Derived.Test.YtahkcemdbfjilaaGreatDoorIt37
import Derived.Deep.Matrix
import Derived.RangeFuncBox
set_option linter.unusedSimpArgs false
set_option linter.unusedVariables false
set_option maxRecDepth 100000
namespace Go.Proofs.YtahkcemdbfjilaaGreatDoor
open Go.RowKit Go.Maps
set_option maxHeartbeats 2000000 in
theorem rroot_any {own:Nat→Prop} {w:World} {r:Nat} {M:Mo} (h:RDk own w r M) (root:By) (hr:root.length≤4000):Calls Tryz.prog 23 #[.pointer (some ⟨r,0,none⟩),kS root] w fun e w'=>e=.returned (.int .i64 (rootE M.now root))∧Below w.heap.size w w':=by
 have C:Hid (Calls Tryz.prog 62 #[kS root] w fun e w'=>e=.returned (.bool (mayB root))∧Below w.heap.size w w'):=by
  have:=Rf.rmay_any (ba root) w (by rw [ba_size];exact hr)
  rw [tl_ba] at this;exact this
 unfold rootE
 cases hm:mayB root with
 | false =>
  rw [hm] at C;clear h hm;go_enter Tryz.func23,Tryz.ntmps23
  go_wp2_with fail
  refine C.out.mono ?_;rintro e1 w1 ⟨rfl,hb1⟩;go_wp2;go_ret;exact ⟨rfl,hb1⟩
 | true =>
  rw [hm] at C;obtain ⟨c,HC⟩:∃c,Hid (noDirE M.now root=c):=⟨_,rfl⟩;have CD:Hid (∀W,Below w.heap.size w W→Calls Tryz.prog 65 #[.pointer (some ⟨r,0,none⟩),kS root] W fun e w'=>∃A c' n,e=.returned (.tuple #[.slice A n c',.int .i64 c])∧Below W.heap.size W w'):=fun W hb=>by
   refine (rList_any (h.on hb) root hr).mono ?_;rintro e w' ⟨A,c',g,rfl,_,hb'⟩;refine ⟨A,c',(listM M.now root).1.length,?_,hb'⟩;have e2:(listM M.now root).2=c:=by
    unfold listM;rw [hm];simp only [Bool.not_true,Bool.and_false,Bool.false_eq_true,if_false];rw [←HC.out];split
    · rename_i k;rw [k]
    · rfl
   rw [e2]
  rw [HC.out];clear h hm;go_enter Tryz.func23,Tryz.ntmps23
  go_wp2_with fail
  refine C.out.mono ?_;rintro e1 w1 ⟨rfl,hb1⟩;go_wp2_with fail
  refine (CD.out _ hb1).mono ?_;rintro e2 w2 ⟨A,c',n,rfl,hb2⟩;go_wp2;go_ret;exact ⟨rfl,hb1.trans (hb2.mono hb1.size)⟩
end Go.Proofs.YtahkcemdbfjilaaGreatDoor
namespace Go.Proofs.YtahkcemdbfjilaaGreatDoor
open Go.RowKit Go.Maps
theorem within_pre {p d:By} (hp:mayB p=true) (hd:mayB d=true):withinB p d=(d++[47]).isPrefixOf p:=by
 have h0:d≠[]:=by rintro rfl;rw [mayB_nil] at hd;cases hd
 rw [withinB,if_neg h0,hp,hd];rfl
theorem inL_snoc2 (L:Tr) (x:At) (root:By):inL (L++[x]) root=if (root++[47]).isPrefixOf x.1 then inL L root++[(x.1.drop (root.length+1),x.2)] else inL L root:=by
 unfold inL;rw [List.filterMap_append,List.filterMap_cons,List.filterMap_nil];by_cases h:(root++[47]).isPrefixOf x.1=true
 · simp only [h,if_true]
 · simp only [h];simp
set_option maxHeartbeats 8000000 in
theorem rnodes_any {own:Nat→Prop} {w:World} {r:Nat} {M:Mo} (h:RDk own w r M) (root:By) (hm:mayB root=true):Calls Tryz.prog 24 #[.pointer (some ⟨r,0,none⟩),kS root] w fun e w'=>∃v,e=.returned v∧TRow w.heap.size w' v (inL M.now root)∧Below w.heap.size w w':=by
 obtain ⟨tl,ts,sv,es,fused,left,h⟩:=h;obtain ⟨v,ht,hrow,_⟩:=h.t1.ex;obtain ⟨A,c,rfl⟩:=hrow.form;have HW:=hid h.good.good.w1;obtain ⟨L,HL⟩:∃L,Hid (M.now=L):=⟨_,rfl⟩;rw [HL.out] at hrow HW ht ⊢;have hn:L.length≤100000:=by have:=h.short;rw [HL.out] at this;exact Nat.le_trans this (by omega)
 obtain ⟨n,HN⟩:∃n,Hid (L.length=n):=⟨_,rfl⟩;rw [HN.out] at hrow ht hn;have FR:Hid (Has w r 51 (rcells tl ts sv fused left)):=h.has;have FT:=hid ht;have ROW:=hid hrow;have hrl:root.length≤160:=(may_parts hm).1;have HM:=hid hm;have hni:(n:Int)≤100000:=by omega
 have zr:(ba root).size=root.length:=ba_size root;clear h ht hrow hm;go_enter Tryz.func24,Tryz.ntmps24
 go_wp2;go_loopw [5,6] (fun v5 v6 wr=>∃(k m c':Nat) (A':Option Addr),v6=.int .i64 (k:Int)∧v5=.slice A' m c'∧k≤n∧m≤k∧Hid ((inL (L.take k) root).length=m)∧Hid (TRow w.heap.size wr (.slice A' m c') (inL (L.take k) root))∧Hid (Below w.heap.size w wr)) (fun _ v6 _=>n - (intOf v6).toNat)
 case atStart=>exact ⟨0,0,0,none,rfl,rfl,by omega,by omega,rfl,TRow.nil _ _,Below.refl _ _⟩
 case round =>
  obtain ⟨k,m,c',A',rfl,rfl,hk,hmk,HK,HO,HB⟩:=hrel;have f0:wr.cell? ⟨r,0,none⟩=some (.pointer (some ⟨tl,0,none⟩)):=(FR.out.kept HB.out FR.out.inside).at_ 0;have f1:wr.cell? ⟨tl,0,none⟩=some (.slice A n c):=(FT.out.kept HB.out FT.out.inside).at_ 0;by_cases hlt:k < n
  · have hkl:k < L.length:=by rw [HN.out];exact hlt
    obtain ⟨g,c2,e,_,hat⟩:=(ROW.out.on HB.out).at_ k hkl;injection e with e e2 e3;clear e2 e3;subst e;rw [getD_at hkl] at hat;have HX:Hid (L.take (k+1)=L.take k++[L[k]]):=List.take_succ_eq_append_getElem hkl;have hpm:=mem_may HW.out (List.getElem_mem hkl);generalize L[k]=x at hat HX hpm;obtain ⟨p,⟨kd,dt,tg,tm⟩⟩:=x;dsimp only at hpm;have hpl:p.length≤160:=(may_parts hpm).1;have HAT:=hid hat;have zp:(ba p).size=p.length:=ba_size p;obtain ⟨w2,hw2⟩:∃w2,wr.alloc (.cells #[kS p,.int .i64 kd,kS dt,kS tg,.int .i64 tm] 73)=w2:=⟨_,rfl⟩;have b2:Below wr.heap.size wr w2:=hw2▸(Below.refl _ _).alloc (Nat.le_refl _) _;have X2:Hid (Has w2 wr.heap.size 73 #[kS p,.int .i64 kd,kS dt,kS tg,.int .i64 tm]):=by rw [←hw2];exact Has.fresh _ _ _
    have x0:=X2.out.at_ 0;have HB2:Hid (Below w.heap.size w w2):=HB.out.trans (b2.mono HB.out.size);have HO2:=hid (HO.out.on b2);have CW:Hid (Calls Tryz.prog 55 #[kS p,kS root] w2 fun e w'=>e=.returned (.bool ((root++[47]).isPrefixOf p))∧Below w2.heap.size w2 w'):=by
     have:=Rf.rwithin_any (ba p) (ba root) w2 (by rw [ba_size];omega) (by rw [ba_size];omega)
     rw [tl_ba,tl_ba,within_pre hpm HM.out] at this;exact this
    have klt:(k:Int) < (n:Int):=by omega
    have k0:(0:Int)≤(k:Int):=by omega
    have w1:IntKind.i64.wrap ((k:Int)+1)=(k:Int)+1:=i64in _ (by omega) (by omega)
    clear hat hkl hpm b2
    cases hpre:(root++[47]).isPrefixOf p with
    | false =>
     rw [hpre] at CW;have HX2:Hid (inL (L.take (k+1)) root=inL (L.take k) root):=by show _=_;rw [HX.out,inL_snoc2];simp [hpre]
     clear hpre;go_wp2_with (first
      | (refine wpList_load_g (by rfl) 73 (.tmp 28) rfl g (k*5) rfl #[kS p,.int .i64 kd,kS dt,kS tg,.int .i64 tm] HAT.out.load ?_))
     refine CW.out.mono ?_;rintro e3 w3 ⟨rfl,hb3⟩;go_wp2;go_roundw
     case rel=>exact ⟨k+1,m,c',A',by go_num,rfl,by omega,by omega,(by show _=_;rw [HX2.out,HK.out]),(by rw [HX2.out];exact HO2.out.on hb3),HB2.out.trans (hb3.mono HB2.out.size)⟩
     case measure=>simp [intOf];omega
    | true =>
     rw [hpre] at CW;have HX2:Hid (inL (L.take (k+1)) root=inL (L.take k) root++[(p.drop (root.length+1),⟨kd,dt,tg,tm⟩)]):=by show _=_;rw [HX.out,inL_snoc2];simp [hpre]
     have HPRE:=hid hpre;clear hpre;go_wp2_with (first
      | (refine wpList_load_g (by rfl) 73 (.tmp 28) rfl g (k*5) rfl #[kS p,.int .i64 kd,kS dt,kS tg,.int .i64 tm] HAT.out.load ?_))
     refine CW.out.mono ?_;rintro e3 w3 ⟨rfl,hb3⟩;obtain ⟨wf,hwf⟩:∃V,w3.drew=V:=⟨_,rfl⟩;have bf:Below w3.heap.size w3 wf:=hwf▸(Below.refl _ _).drew;have B2f:Below w2.heap.size w2 wf:=hb3.trans (bf.mono hb3.size);have XF:Hid (Has wf wr.heap.size 73 #[kS p,.int .i64 kd,kS dt,kS tg,.int .i64 tm]):=X2.out.kept B2f X2.out.inside;have HBF:Hid (Below w.heap.size w wf):=HB2.out.trans (B2f.mono HB2.out.size);have HOF:=hid (HO2.out.on B2f);have ws:IntKind.i64.wrap ((root.length:Int)+1)=(root.length:Int)+1:=i64in _ (by omega) (by omega)
     have hpl2:root.length+1≤p.length:=by
      have:=List.IsPrefix.length_le (List.isPrefixOf_iff_prefix.1 HPRE.out);simpa using this
     have he:(ba p).extract (root.length+1) (ba p).size=ba (p.drop (root.length+1)):=by rw [ba_drop,tl_ba]
     have hsl:∀V,(Instr.slice 9 (kS p) (some (.int .i64 ((root.length:Int)+1))) none none).run Tryz.prog V=.ok (kS (p.drop (root.length+1))) V:=fun V=>by
      have hz:((root.length:Int)+1).toNat=root.length+1:=by omega
      have:=run_slice_string_l (P:=Tryz.prog) V 9 (ba p) (by kernel_rfl) .i64 ((root.length:Int)+1) (by omega) (by rw [zp];omega)
      rw [hz,he] at this;exact this
     have HLN:Hid ((inL (L.take k) root).length≤100000):=by show _≤_;rw [HK.out];omega
     obtain ⟨y,hy⟩:∃y:At,y=(p.drop (root.length+1),⟨kd,dt,tg,tm⟩):=⟨_,rfl⟩;have bfa:Below wf.heap.size wf (wf.alloc (.cells (atCells y) 73)):=(Below.refl _ _).alloc (Nat.le_refl _) _;obtain ⟨v5,W5,hr5,ho5,hg5⟩:=append_at (wf.alloc (.cells (atCells y) 73)) w.heap.size (.slice A' m c') (inL (L.take k) root) (HOF.out.on bfa) y wf.heap.size (Has.fresh _ _ _) HLN.out (by have:=HBF.out.size;simp;omega) 64
     rw [hy,←HX2.out] at ho5;obtain ⟨A5,c5,rfl⟩:=ho5.form;have HM5:Hid ((inL (L.take (k+1)) root).length=m+1):=by show _=_;rw [HX2.out,List.length_append,HK.out];rfl
     rw [HM5.out] at hr5 ho5;have R5:=hid hr5;have O5:=hid ho5;have B5:Hid (Below w.heap.size w W5):=(HBF.out.trans (bfa.mono HBF.out.size)).grown hg5 (by have:=HBF.out.size;simp;omega) (fun g9 h9=>(World.ownsRow.lt (HOF.out.on bfa) g9 h9).1)
     have X5F:Hid (Has W5 wr.heap.size 73 #[kS p,.int .i64 kd,kS dt,kS tg,.int .i64 tm]):=by
      refine (hg5.block wr.heap.size (by have:=XF.out.inside;simp;omega) (fun e=>?_)).trans (XF.out.more (.cells (atCells y) 73))
      have:=(World.ownsRow.lt HO.out wr.heap.size e.symm).2;omega
     clear hb3 bf B2f he hr5 ho5 hg5 bfa;go_wp2;refine wp_region_noPanic ?_;refine wp_region_held_drew (S:=fun V=>Has V wr.heap.size 73 #[kS p,.int .i64 kd,kS dt,kS tg,.int .i64 tm]) (by kernel_rfl) (by rw [hwf];exact XF.out) (fun hS=>?_)
     clear hS;rw [hwf];have hS7:=XF.out;refine inI 0 ?_
     iterate 6
      refine stI (v:=?_) (by simp only [lkA,lkB,lkC];rfl) (by kernel_rfl) (fun _ _ _ h=>h) (by rfl) (by assumption) ?_ ?_
      rotate_left 1
      · intro w hSw
        have c1:=hSw.at_ 0;go_simp
        with_reducible rfl
      simp only [Act.put,siA,siB,siC,Nat.reduceAdd]
     refine outI ?_;refine' wpAnyH_take (i:=6) (v:=kS (p.drop (root.length+1))) (by simp only [lkA,lkB,lkC];rfl) (by kernel_rfl) (by kernel_rfl) (by kernel_rfl) (fun _ _ _ h=>h) (Or.inl ⟨by rfl,fun V _=>?_⟩) (by assumption) ?_
     · have hs6:=hsl V
       go_simp
     simp only [Act.put,siA,siB,siC];refine tkH 7 (v:=?_) (by simp only [lkA,lkB,lkC];rfl) (by kernel_rfl) (fun _ _ _ h=>h) (by rfl) (by assumption) ?_ ?_
     rotate_left 1
     · intro w hSw
       have c1:=hSw.at_ 0;go_simp
       with_reducible rfl
     simp only [Act.put,siA,siB,siC];refine' wpAnyH_take (i:=8) (v:=_) (by simp only [lkA,lkB,lkC];rfl) (by kernel_rfl) (by kernel_rfl) (by kernel_rfl) (fun _ _ _ h=>h) (yields_loadA (by rfl) 71 (.tmp 41) rfl wr.heap.size 1 rfl #[.int .i64 kd,kS dt,kS tg,.int .i64 tm] (fun X hSX=>(show AtAt X wr.heap.size 0 (p,⟨kd,dt,tg,tm⟩) from ⟨hSX.at_ 0,hSX.at_ 1,hSX.at_ 2,hSX.at_ 3,hSX.at_ 4⟩).node)) (by assumption) ?_
     simp only [Act.put,siA,siB,siC];refine tkH 9 (v:=?_) (by simp only [lkA,lkB,lkC];rfl) (by kernel_rfl) (fun _ _ _ h=>h) (by rfl) (by assumption) ?_ ?_
     rotate_left 1
     · intro w hSw
       go_simp
       with_reducible rfl
     simp only [Act.put,siA,siB,siC];clear hS7;refine wpAnyH_ready (rs:=[10]) (by kernel_rfl) (by simp) ?_
     refine AllReadyH.cons (by simp only [lkA,lkB,lkC];rfl) (fun K hK=>?_) (AllReadyH.nil)
     refine step_build_at (by rfl) (.tmp 43) rfl y (by rw [hy];rfl) ?_
     refine hK.out _ _ (XF.out.more _) (fun hS=>?_)
     clear hK K hS;refine wpAnyH_ready (rs:=[11]) (by kernel_rfl) (by simp) ?_
     refine AllReadyH.cons (by simp only [lkA,lkB,lkC];rfl) (fun K hK=>?_) (AllReadyH.nil)
     refine step_append_run (by rfl) (.tmp 34) (.tmp 44) 64 64 rfl (.slice A' m c') (.slice (some ⟨wf.heap.size,0,none⟩) 1 1) rfl rfl R5.out ?_
     have X5:Has W5 wr.heap.size 73 #[kS p,.int .i64 kd,kS dt,kS tg,.int .i64 tm]:=X5F.out;refine hK.out _ _ X5 (fun hS=>?_)
     clear hK K;refine tkH 12 (v:=?_) (by simp only [lkA,lkB,lkC];rfl) (by kernel_rfl) (fun _ _ _ h=>h) (by rfl) (by assumption) ?_ ?_
     rotate_left 1
     · intro w hSw
       go_simp
       with_reducible rfl
     simp only [Act.put,siA,siB,siC];clear X5 hS;refine wpAnyH_done (by kernel_rfl) ?_ _
     refine NoPanic.normal ?_;go_wp2;go_roundw
     case rel=>exact ⟨k+1,m+1,c5,A5,by go_num,rfl,by omega,by omega,HM5.out,O5.out,B5.out⟩
     case measure=>simp [intOf];omega
  · have kge:¬(k:Int) < (n:Int):=by omega
    have hkn:k=n:=by omega
    have HT:Hid (L.take k=L):=List.take_of_length_le (by rw [HN.out];omega)
    rw [HT.out] at HO;go_wp2;go_ret;exact ⟨_,rfl,HO.out,HB.out⟩
end Go.Proofs.YtahkcemdbfjilaaGreatDoor
namespace Go.Proofs.YtahkcemdbfjilaaGreatDoor
open Go.RowKit Go.Maps
theorem iRec27:(Tryz.prog.info? 58).map (·.size)=some 27:=by kernel_rfl
theorem results_rec {fn:Func} {c:Nat} {t:Tmp} (h:fn.results=#[.cell c 58,.tmp t]) (tmps:Array Value) (w:World) (g:Nat) (cs:Array Value) (hc:tmps.getD c undef=.pointer (some ⟨g,0,none⟩)) (hg:Has w g 58 cs) (hi:cs.size=27) :
 (results fn tmps).run Tryz.prog w=.ok (.tuple #[.agg cs,tmps.getD t undef]) w:=by
 have hp':tmps[c]?.getD undef=.pointer (some ⟨g,0,none⟩):=by simpa using hc
 have hl:=run_loadVar_row (P:=Tryz.prog) w g 58 58 cs (0,0) _ hg Tryz.underlying58 rfl (by rw [hi];exact iRec27)
 simp [results,h,hp',asAddr,hl]
def recZ:Array Value:=recC [] 0 0 0 0 (.slice none 0 0) []
theorem recZ_all:recZ.all (·.oneCell')=true:=by
 rw [Array.all_eq_true];intro i hi;exact recYtahkcemdbfjilaaGreatDoorone [] n0 (.slice none 0 0) rfl _ (by rw [Array.mem_toList_iff];exact Array.getElem_mem hi)
def itemM (L:Tr) (root q:By):Int × Nd:=if mayB (root++47 :: q) then (match look L (root++47 :: q) with | some n=>if badN n then (3,n0) else (0,n) | none=>(5,n0)) else (10,n0)
def ItemP (w:World) (q:By) (r:Int × Nd) (e:Ending) (w':World):Prop :=
 ∃cs:Array Value,e=.returned (.tuple #[.agg cs,.int .i64 r.1])∧cs.size=27∧cs.all (·.oneCell')=true∧(r.1=0→∃bv,cs=recN q r.2 bv∧Dgs w.heap.size w' bv (hasN r.2))∧(r.1≠0→cs=recZ)∧Below w.heap.size w w'
theorem recNall (p:By) (n:Nd) (bv:Value) (hb:bv.oneCell'=true):(recN p n bv).all (·.oneCell')=true:=by
 rw [Array.all_eq_true];intro i hi;exact recYtahkcemdbfjilaaGreatDoorone p n bv hb _ (by rw [Array.mem_toList_iff];exact Array.getElem_mem hi)
set_option maxHeartbeats 8000000 in
theorem item_any {own:Nat→Prop} {w:World} {p:Nat} {M:Mo} (h:Dsk own w p M) (hG:Gd w) (hT:Sha.Tab w) (root q:By) (hr:root.length≤4000) (hq:q.length≤4000) :
 Calls Tryz.prog 20 #[.pointer (some ⟨p,0,none⟩),kS root,kS q] w fun e w'=>ItemP w q (itemM M.now root q) e w':=by
 obtain ⟨at_,HAT⟩:∃at_,Hid (root++47 :: q=at_):=⟨_,rfl⟩;have zr:=ba_size root;have zq:=ba_size q;have a1:ba root++(⟨#[47]⟩:ByteArray)=ba (root++[47]):=Glob.ba_app root [47];have a2:ba (root++[47])++ba q=ba at_:=by
  have e:=Glob.ba_app (root++[47]) q;rw [List.append_assoc] at e;have e2:root++([47]++q)=at_:=HAT.out;rw [e2] at e;exact e
 have z2:(ba (root++[47])).size=root.length+1:=by rw [ba_size,List.length_append];rfl
 have b1:Below w.heap.size w (w.alloc (.cells recZ 58)):=(Below.refl _ _).alloc (Nat.le_refl _) _;have F1:Hid (Has (w.alloc (.cells recZ 58)) w.heap.size 58 recZ):=Has.fresh _ _ _;have CN:=hid (nowhere_any p at_ _ (hG.kept b1));have B1:=hid b1;have H:=hid h;have HG:=hid hG;have HT:=hid hT;obtain ⟨r,HR⟩:∃r,Hid (itemM M.now root q=r):=⟨_,rfl⟩;have hrr:=HR.out;unfold itemM at hrr;rw [HAT.out] at hrr;rw [HR.out];clear h hG hT b1
 cases hm:mayB at_ with
 | false =>
  rw [hm] at hrr CN;have hr1:r=(10,n0):=by rw [←hrr];rfl
  subst hr1;clear hrr hm;go_enter Tryz.func20,Tryz.ntmps20
  go_wp2_with fail
  refine CN.out.mono ?_;rintro e1 w1 ⟨rfl,hb1⟩;have B2:=hid (B1.out.trans (hb1.mono B1.out.size));have F2:=hid (F1.out.kept hb1 F1.out.inside);clear hb1;go_wp2_with (refine wpList_store_row rfl 58 (.tmp 6) (.tmp 21) rfl w.heap.size recZ rfl rfl 58 _ F2.out (by kernel_rfl) rfl recZ_all ?_)
  refine bodyPost_ret (results_rec rfl _ _ w.heap.size recZ rfl F2.out.row rfl) rfl ?_;exact ⟨recZ,rfl,rfl,recZ_all,fun h=>absurd h (by decide),fun _=>rfl,B2.out.rowK (Nat.le_refl _) _⟩
 | true =>
  have hal:at_.length≤4000:=by have:=(may_parts hm).1;omega
  rw [hm] at hrr CN;have CR:Hid (∀W,Below w.heap.size w W→Calls Tryz.prog 61 #[.pointer (some ⟨p,0,none⟩),kS at_] W fun e w'=>ReadP W (readM M.now at_) e w'):=fun W hb=>dRead_any (H.out.on hb) (HG.out.kept hb) at_ hal
  cases hl:look M.now at_ with
  | none =>
   have hrd:readM M.now at_=(n0,5):=by unfold readM;rw [hm,hl];rfl
   rw [hl] at hrr;have hr1:r=(5,n0):=by rw [←hrr];rfl
   subst hr1;rw [hrd] at CR;clear hrr hm hl hrd;go_enter Tryz.func20,Tryz.ntmps20
   go_wp2_with fail
   refine CN.out.mono ?_;rintro e1 w1 ⟨rfl,hb1⟩;have B2:=hid (B1.out.trans (hb1.mono B1.out.size));have F2:=hid (F1.out.kept hb1 F1.out.inside);clear hb1;go_wp2_with fail
   refine (CR.out _ B2.out).mono ?_;rintro e2 w2 ⟨rfl,hb2⟩;have b3:Below w2.heap.size w2 (w2.alloc (.cells #[.int .i64 0,.string ⟨#[]⟩,.string ⟨#[]⟩,.int .i64 0] 71)):=(Below.refl _ _).alloc (Nat.le_refl _) _;have B3:=hid (B2.out.trans (hb2.mono B2.out.size));have B4:=hid (B3.out.trans (b3.mono B3.out.size));have F4:=hid ((F2.out.kept hb2 F2.out.inside).more (.cells #[.int .i64 0,.string ⟨#[]⟩,.string ⟨#[]⟩,.int .i64 0] 71));clear hb2 b3;show _
   dsimp only [nodeV,n0];go_wp2_with (refine wpList_store_row rfl 58 (.tmp 6) (.tmp 32) rfl w.heap.size recZ rfl rfl 58 _ F4.out (by kernel_rfl) rfl recZ_all ?_)
   refine bodyPost_ret (results_rec rfl _ _ w.heap.size recZ rfl F4.out.row rfl) rfl ?_;exact ⟨recZ,rfl,rfl,recZ_all,fun h=>absurd h (by decide),fun _=>rfl,B4.out.rowK (Nat.le_refl _) _⟩
  | some n =>
   have hrd:readM M.now at_=(n,0):=by unfold readM;rw [hm,hl];rfl
   have hdl:n.data.length≤1048576:=by
    have hW:=H.out.good.w1;have h1:=used_memN (look_mem hl);have h2:=hW.used;have h3:M.room≤1048576:=by obtain ⟨_,_,_,_,h'⟩:=H.out;exact h'.r1
    dsimp only at h1;omega
   rw [hl] at hrr;rw [hrd] at CR;have CB:=hid (fun W=>isBad_any n (by omega) W)
   have CI:Hid (badN n=false→∀W,Below w.heap.size w W→Calls Tryz.prog 54 #[kS q,nodeV n] W fun e w'=>∃bv,e=.returned (.agg (recN q n bv))∧Dgs W.heap.size w' bv (hasN n)∧Below W.heap.size W w'):=fun hb W hW =>
    itemOf_any q n W (HT.out.kept hW HG.out.pos) (fun _=>by unfold badN at hb;simpa using hb)
   clear hm hl hrd hdl;obtain ⟨k,d,x,t⟩:=n;have CR':Hid (∀W,Below w.heap.size w W→Calls Tryz.prog 61 #[.pointer (some ⟨p,0,none⟩),kS at_] W fun e w'=>e=.returned (.tuple #[.agg #[.int .i64 k,kS d,kS x,.int .i64 t],.int .i64 0])∧Below W.heap.size W w'):=CR.out
   have CB':Hid (∀W,Calls Tryz.prog 53 #[.agg #[.int .i64 k,kS d,kS x,.int .i64 t]] W fun e w'=>e=.returned (.bool (badN ⟨k,d,x,t⟩))∧Below W.heap.size W w'):=CB.out
   clear CR CB
   cases hb:badN ⟨k,d,x,t⟩ with
   | true =>
    have hr1:r=(3,n0):=by rw [←hrr];simp [hb]
    subst hr1;rw [hb] at CB';clear hrr hb CI;go_enter Tryz.func20,Tryz.ntmps20
    go_wp2_with fail
    refine CN.out.mono ?_;rintro e1 w1 ⟨rfl,hb1⟩;have B2:=hid (B1.out.trans (hb1.mono B1.out.size));have F2:=hid (F1.out.kept hb1 F1.out.inside);clear hb1;go_wp2_with fail
    refine (CR'.out _ B2.out).mono ?_;rintro e2 w2 ⟨rfl,hb2⟩;have b3:Below w2.heap.size w2 (w2.alloc (.cells #[.int .i64 k,kS d,kS x,.int .i64 t] 71)):=(Below.refl _ _).alloc (Nat.le_refl _) _;have B3:=hid (B2.out.trans (hb2.mono B2.out.size));have B4:=hid (B3.out.trans (b3.mono B3.out.size));have F4:=hid ((F2.out.kept hb2 F2.out.inside).more (.cells #[.int .i64 k,kS d,kS x,.int .i64 t] 71));have N4:Hid (Has (w2.alloc (.cells #[.int .i64 k,kS d,kS x,.int .i64 t] 71)) w2.heap.size 71 #[.int .i64 k,kS d,kS x,.int .i64 t]):=Has.fresh _ _ _;clear hb2 b3;go_wp2_with (refine wpList_load_g rfl 71 (.tmp 10) rfl w2.heap.size 0 rfl #[.int .i64 k,kS d,kS x,.int .i64 t] (load_nodeC N4.out) ?_)
    refine (CB'.out _).mono ?_;rintro e5 w5 ⟨rfl,hb5⟩;have B5:=hid (B4.out.trans (hb5.mono B4.out.size));have F5:=hid (F4.out.kept hb5 F4.out.inside);clear hb5;go_wp2_with (refine wpList_store_row rfl 58 (.tmp 6) (.tmp 37) rfl w.heap.size recZ rfl rfl 58 _ F5.out (by kernel_rfl) rfl recZ_all ?_)
    refine bodyPost_ret (results_rec rfl _ _ w.heap.size recZ rfl F5.out.row rfl) rfl ?_;exact ⟨recZ,rfl,rfl,recZ_all,fun h=>absurd h (by decide),fun _=>rfl,B5.out.rowK (Nat.le_refl _) _⟩
   | false =>
    have hr1:r=(0,⟨k,d,x,t⟩):=by rw [←hrr];simp [hb]
    subst hr1;have CI':Hid (∀W,Below w.heap.size w W→Calls Tryz.prog 54 #[kS q,.agg #[.int .i64 k,kS d,kS x,.int .i64 t]] W fun e w'=>∃bv,e=.returned (.agg (recN q ⟨k,d,x,t⟩ bv))∧Dgs W.heap.size w' bv (hasN ⟨k,d,x,t⟩)∧Below W.heap.size W w'):=CI.out hb
    rw [hb] at CB';clear hrr hb CI;go_enter Tryz.func20,Tryz.ntmps20
    go_wp2_with fail
    refine CN.out.mono ?_;rintro e1 w1 ⟨rfl,hb1⟩;have B2:=hid (B1.out.trans (hb1.mono B1.out.size));have F2:=hid (F1.out.kept hb1 F1.out.inside);clear hb1;go_wp2_with fail
    refine (CR'.out _ B2.out).mono ?_;rintro e2 w2 ⟨rfl,hb2⟩;have b3:Below w2.heap.size w2 (w2.alloc (.cells #[.int .i64 k,kS d,kS x,.int .i64 t] 71)):=(Below.refl _ _).alloc (Nat.le_refl _) _;have B3:=hid (B2.out.trans (hb2.mono B2.out.size));have B4:=hid (B3.out.trans (b3.mono B3.out.size));have F4:=hid ((F2.out.kept hb2 F2.out.inside).more (.cells #[.int .i64 k,kS d,kS x,.int .i64 t] 71));have N4:Hid (Has (w2.alloc (.cells #[.int .i64 k,kS d,kS x,.int .i64 t] 71)) w2.heap.size 71 #[.int .i64 k,kS d,kS x,.int .i64 t]):=Has.fresh _ _ _;clear hb2 b3;go_wp2_with (refine wpList_load_g rfl 71 (.tmp 10) rfl w2.heap.size 0 rfl #[.int .i64 k,kS d,kS x,.int .i64 t] (load_nodeC N4.out) ?_)
    refine (CB'.out _).mono ?_;rintro e5 w5 ⟨rfl,hb5⟩;have B5:=hid (B4.out.trans (hb5.mono B4.out.size));have F5:=hid (F4.out.kept hb5 F4.out.inside);have N5:=hid (N4.out.kept hb5 N4.out.inside);clear hb5;go_wp2_with (refine wpList_load_g rfl 71 (.tmp 10) rfl w2.heap.size 0 rfl #[.int .i64 k,kS d,kS x,.int .i64 t] (load_nodeC N5.out) ?_)
    refine (CI'.out _ B5.out).mono ?_;rintro e6 w6 ⟨bv,rfl,hdg,hb6⟩;have B6:=hid (B5.out.trans (hb6.mono B5.out.size));have F6:=hid (F5.out.kept hb6 F5.out.inside);have DG6:=hid hdg;obtain ⟨cs,HCS⟩:∃cs,Hid (recN q ⟨k,d,x,t⟩ bv=cs):=⟨_,rfl⟩;have HSC:Hid (cs.size=27):=by rw [←HCS.out];rfl
    have HAL:Hid (cs.all (·.oneCell')=true):=by rw [←HCS.out];exact recNall _ _ _ (dgs_one hdg)
    rw [HCS.out];clear hb6 hdg;go_wp2_with (refine wpList_store_row rfl 58 (.tmp 6) (.tmp 40) rfl w.heap.size cs rfl rfl 58 _ F6.out (by rw [HSC.out];exact iRec27) (by rw [HSC.out];rfl) HAL.out ?_)
    refine bodyPost_ret (results_rec rfl _ _ w.heap.size cs rfl F6.out.row HSC.out) rfl ?_;refine ⟨cs,rfl,HSC.out,HAL.out,fun _=>⟨bv,HCS.out.symm,?_⟩,fun h=>absurd rfl h,B6.out.rowK (Nat.le_refl _) _⟩
    have hle:=B5.out.size;refine ⟨row_of (DG6.out.mono hle).own fun b hb=>setRow_other _ _ b _ ?_,DG6.out.len⟩
    intro e;have h1:=(World.ownsRow.lt DG6.out.own b hb).1;have h2:=F5.out.inside;omega
end Go.Proofs.YtahkcemdbfjilaaGreatDoor
namespace Go.Proofs.YtahkcemdbfjilaaGreatDoor.Sha
open Go.RowKit
def wAt (l:List (BitVec 32)) (t:Nat):BitVec 32 :=
 if _h:t < 16 then at32 l t else wAt l (t - 16)+sig0 (wAt l (t - 15))+wAt l (t - 7)+sig1 (wAt l (t - 2))
termination_by t
theorem wAt_low (l:List (BitVec 32)) (t:Nat) (h:t < 16):wAt l t=at32 l t:=by rw [wAt,dif_pos h]
theorem wAt_high (l:List (BitVec 32)) (t:Nat) (h:16≤t):wAt l t=wAt l (t - 16)+sig0 (wAt l (t - 15))+wAt l (t - 7)+sig1 (wAt l (t - 2)):=by
 rw [wAt,dif_neg (by omega)]
theorem at32_set_same (l:List (BitVec 32)) (i:Nat) (x:BitVec 32) (h:i < l.length):at32 (l.set i x) i=x:=by
 simp [at32,List.getD,List.getElem?_set_self h]
theorem at32_set_other (l:List (BitVec 32)) (i j:Nat) (x:BitVec 32) (h:i≠j):at32 (l.set i x) j=at32 l j:=by
 simp [at32,List.getD,List.getElem?_set_ne h]
theorem sched_at (l:List (BitVec 32)) (hl:l.length=16):∀k t,(t < 16∨t < k)→k≤t+16→at32 (sched l k) (t % 16)=wAt l t:=by
 intro k;induction k with
 | zero =>
  intro t h1 h2;have h:t < 16:=by omega
  rw [wAt_low _ _ h,Nat.mod_eq_of_lt h];rfl
 | succ k ih =>
  intro t h1 h2;by_cases hk:16≤k
  · rw [sched_high _ _ hk]
    by_cases ht:t=k
    · subst ht
      rw [at32_set_same _ _ _ (by rw [sched_len l hl];omega),nextW,wAt_high _ _ hk]
      have e1:=ih (t - 16) (by omega) (by omega)
      have e2:=ih (t - 15) (by omega) (by omega)
      have e3:=ih (t - 7) (by omega) (by omega)
      have e4:=ih (t - 2) (by omega) (by omega)
      rw [←e1,←e2,←e3,←e4];have m1:(t - 16) % 16=t % 16:=by omega
      have m2:(t - 15) % 16=(t+1) % 16:=by omega
      have m3:(t - 7) % 16=(t+9) % 16:=by omega
      have m4:(t - 2) % 16=(t+14) % 16:=by omega
      rw [m1,m2,m3,m4]
    · rw [at32_set_other _ _ _ _ (by omega)]
      exact ih t (by omega) (by omega)
  · rw [sched_low _ _ (by omega)]
    exact ih t (by omega) (by omega)
theorem sched_word (l:List (BitVec 32)) (hl:l.length=16) (k:Nat):at32 (sched l (k+1)) (k % 16)=wAt l k :=
 sched_at l hl (k+1) k (by omega) (by omega)
theorem run8_word (l:List (BitVec 32)) (hl:l.length=16) (s:S8) (k:Nat):run8 l s (k+1)=stepS (run8 l s k) (at32 kList k) (wAt l k):=by
 rw [run8,sched_word l hl]
end Go.Proofs.YtahkcemdbfjilaaGreatDoor.Sha
namespace Go.Proofs.YtahkcemdbfjilaaGreatDoor.Sha
open Go.RowKit
structure Bytes (w:World) (v:Value) (xs:List UInt8) (A:Option Addr) (cap bb off:Nat):Prop where
 form:v=.slice A xs.length cap
 le:xs.length≤cap
 zero:A=none→cap=0
 at_:∀a,A=some a→∀j,j < xs.length→w.cell? (a.add j)=some (V8 (at8 xs j))
 blk:bb < w.heap.size
 src:0 < xs.length→A=some ⟨bb,off,none⟩
theorem Bytes.cells {w:World} {v:Value} {xs:List UInt8} {A:Option Addr} {cap bb off:Nat} (h:Bytes w v xs A cap bb off) (j:Nat) (hj:j < xs.length):w.cell? ⟨bb,off+j,none⟩=some (V8 (at8 xs j)):=by
 have e:=h.at_ _ (h.src (by omega)) j hj
 have:(⟨bb,off,none⟩:Addr).add j=⟨bb,off+j,none⟩:=by unfold Addr.add;split<;>simp_all
 rwa [this] at e
theorem Bytes.kept {w w':World} {B:Nat} {v:Value} {xs:List UInt8} {A:Option Addr} {cap bb off:Nat} (h:Bytes w v xs A cap bb off) (hb:Below B w w') (hB:w.heap.size≤B):Bytes w' v xs A cap bb off :=
 ⟨h.form,h.le,h.zero,fun a ha j hj=>by
  have e:=h.at_ a ha j hj;exact (hb.cell (Nat.lt_of_lt_of_le (block_lt_of_cell e) hB)).trans e,Nat.lt_of_lt_of_le h.blk hb.size,h.src⟩
theorem V8_one (xs:List UInt8):∀u∈xs.map V8,u.oneCell'=true:=by
 intro u hu;obtain ⟨x,_,rfl⟩:=List.mem_map.1 hu;rfl
theorem map_get {xs:List UInt8} {j:Nat} {u:Value} (h:(xs.map V8)[j]? = some u):j < xs.length∧u=V8 (at8 xs j):=by
 have hj:j < xs.length:=by
  have:=(List.getElem?_eq_some_iff.1 h).1;simpa using this
 refine ⟨hj,?_⟩;rw [List.getElem?_map,List.getElem?_eq_getElem hj] at h;simp at h;rw [←h,at8,List.getD,List.getElem?_eq_getElem hj];rfl
theorem append_bytes (w:World) (B:Nat) (v:Value) (n:Nat) (xs:List Value) (hown:w.ownsRow B 5 1 v n xs) {src:Value} {ys:List UInt8} {A:Option Addr} {cap bb off:Nat} (hs:Bytes w src ys A cap bb off)
 (hn:n+ys.length≤1000000) (hB:B≤w.heap.size) :
 ∃v' w',(Builtin.append_ #[79,79] 79 #[v,src]).run Tryz.prog w=.ok v' w'∧w'.ownsRow B 5 1 v' (n+ys.length) (xs++ys.map V8)∧w.grownBy w' v.ownBlock ∧
  (v'=.slice none 0 0↔v=.slice none 0 0∧ys.length=0)∧(v'.ownBlock=v.ownBlock∨v'.ownBlock=some w.heap.size):=by
 obtain ⟨i0,hi,hz0,hz1,hz2⟩:=info_parts info5
 cases A with
 | none =>
  have hc:=hs.zero rfl;have hl:=hs.le;have h0:ys.length=0:=by omega
  have hy:ys=[]:=List.eq_nil_of_length_eq_zero h0;have e:=hs.form;rw [hc,h0] at e;rw [e];refine ⟨v,w,run_append_owned_none (P:=Tryz.prog) w B 79 79 5 i0 1 Tryz.underlying79 hi v n xs hown,?_,⟨rfl,rfl,rfl,Nat.le_refl _,fun _ _ _=>rfl⟩,by simp [h0],.inl rfl⟩
  rw [h0,hy];simpa using hown
 | some a =>
  rw [hs.form];exact run_append_own_at (P:=Tryz.prog) w B 79 79 5 i0 (.int .u8 0) 1 1 Tryz.underlying79 hi hz0 hz1 hz2 rfl (by omega) v n xs hown a ys.length cap (ys.map V8) (by simp)
   (fun j u hj=>by obtain ⟨h1,rfl⟩:=map_get hj;exact hs.at_ a rfl j h1) (V8_one ys) (by unfold maxLen;omega) (by omega) hB
theorem wpList_append_run {P:Program} {ops:Array Oper} {rest:List Oper} {o:Oper} {a:Act} {w:World} {Q:Exit→Act→World→Prop} (hgd:o.guard=none) (s x:Operand) (t:TypeId)
 (ho:o.op=.call { callee:=.builtin .append,args:=#[s,x],argTypes:=#[t,t] })
 (h:∃v' w',(Builtin.append_ #[t,t] o.type #[a.eval s,a.eval x]).run P w=.ok v' w'∧wpList P ops Q rest (a.put o.dst v') w'):wpList P ops Q (o :: rest) a w :=
 wpList_plain hgd fun _ hK=>by
  obtain ⟨v',w',hr,h⟩:=h;unfold Oper.wp execOp;simp only [ho,resolve,invoke,builtin,Sem.run_bind,Sem.run_pure,Result.andThen_ok,List.map_toArray,List.map_cons,List.map_nil,hr];exact hK _ _ h
end Go.Proofs.YtahkcemdbfjilaaGreatDoor.Sha
namespace Go.Proofs.YtahkcemdbfjilaaGreatDoor.Sha
open Go.RowKit
theorem one_u8 (z:Int):∀u∈[Value.int .u8 z],u.oneCell'=true:=by
 intro u hu;rw [List.mem_singleton] at hu;subst hu;rfl
theorem own_step {w w1 wr:World} {o:Obj} {v:Value} {n:Nat} {xs:List Value} (HB:Below w.heap.size w wr) (HO:wr.ownsRow w.heap.size 5 1 v n xs) (hg:(wr.alloc o).grownBy w1 v.ownBlock):Below w.heap.size w w1 :=
 (HB.alloc HB.size _).grown hg (by have:=HB.size;simp;omega) (fun g hk=>(HO.lt g hk).1)
set_option maxHeartbeats 1000000 in
theorem padded_any (ys:List UInt8) (A:Option Addr) (cap bb off:Nat) (w:World) (n:Nat) (hn:ys.length=n) (hn2:n≤100000) (hs:Bytes w (.slice A n cap) ys A cap bb off) :
 Calls Tryz.prog 200 #[.slice A n cap] w fun e w'=>∃v,e=.returned v∧w'.ownsRow w.heap.size 5 1 v (ys++padL n).length ((ys++padL n).map V8)∧Below w.heap.size w w':=by
 obtain ⟨i0,hi,hz0,hz1,hz2⟩:=info_parts info5;obtain ⟨K,HK⟩:∃K,Hid ((119 - n % 64) % 64=K∧K < 64):=⟨_,rfl,by omega⟩
 obtain ⟨v1,w1,hr1,ho1,hg1,_,_⟩:=append_bytes w w.heap.size (.slice none 0 0) 0 [] (World.ownsRow_nil _ _ _ _) hs (by omega) (Nat.le_refl _)
 rw [Nat.zero_add,List.nil_append,hn] at ho1;have HO1:=hid ho1;have HB1:Hid (Below w.heap.size w w1):=(Below.refl _ _).grown hg1 (Nat.le_refl _) (fun g hk=>by cases hk)
 have HR:=hid hr1;have HN:=hid hn;clear hr1 ho1 hg1 hs hn;have N2:Hid (n+1≤maxLen):=by show _≤_;unfold maxLen;omega
 have N3:Hid ((n+1)*1≤140737488355328):=by show _≤_;omega
 have N4:Hid (∀o,w.heap.size≤(w1.alloc o).heap.size):=by intro o;have:=HB1.out.size;simp;omega
 go_enter Tryz.func200,Tryz.ntmps200
 go_wp2_with (first
  | (refine wpList_append_run rfl (.tmp 6) (.tmp 7) 79 rfl ?_
     refine ⟨v1,w1,HR.out,?_⟩)
  | (at_builtin;refine wpList_append_own _ rfl _ _ 79 rfl w.heap.size 5 i0 (.int .u8 0) 1 1 Tryz.underlying79 hi hz0 hz1 hz2 rfl (by omega) _ _ _ rfl (HO1.out.alloc _) ⟨w1.heap.size,0,none⟩ 1 1 [Value.int .u8 128] rfl rfl (cell_one_new _ _ _) (one_u8 128) N2.out N3.out (N4.out _) ?_
     intro v2 w2 hown hgrow _;have HB2:Hid (Below w.heap.size w w2):=own_step HB1.out HO1.out hgrow;obtain ⟨g2,c2,rfl⟩:=ownsRow_succ hown;have HO2:Hid (w2.ownsRow w.heap.size 5 1 (.slice (some ⟨g2,0,none⟩) (n+1) c2) (n+1) ((ys++128 :: List.replicate 0 0).map V8)):=by
      rw [List.map_append];exact hown
     clear hown hgrow))
 clear HR HO1 HB1 N4;go_loopw [3] (fun v wr=>∃(L j:Nat) (B:Option Addr) (c:Nat),v=.slice B L c∧Hid (L=n+1+j)∧j≤K∧L≤200000∧Hid (wr.ownsRow w.heap.size 5 1 (.slice B L c) L ((ys++128 :: List.replicate j 0).map V8))∧Hid (Below w.heap.size w wr))
  (fun v _=>match v with | .slice _ L _=>n+1+K - L | _=>0)
 case atStart=>exact ⟨n+1,0,_,_,rfl,rfl,by omega,by omega,HO2,HB2⟩
 case round =>
  obtain ⟨L,j,B,c,rfl,HL,hj,hL,HO,HB⟩:=hrel;obtain ⟨r,Hr⟩:∃r,Hid (L % 64=r):=⟨_,rfl⟩;have t1:(L:Int) % 64=(r:Int):=by rw [←Hr.out];rfl
  have t2:(L:Int).tmod 64=(r:Int):=by rw [Int.tmod_eq_emod_of_nonneg (by omega)];exact t1
  by_cases hlt:j < K
  · have t3:((r:Int) != 56)=true:=by
     have h1:=HK.out;have h2:=HL.out;have h3:=Hr.out;rw [bne_iff_ne];omega
    have t4:((r:Int) == 56)=false:=by simpa [bne] using t3
    have N2:Hid (L+1≤maxLen):=by show _≤_;unfold maxLen;omega
    have N3:Hid ((L+1)*1≤140737488355328):=by show _≤_;omega
    have N4:Hid (∀o,w.heap.size≤(wr.alloc o).heap.size):=by intro o;have:=HB.out.size;simp;omega
    go_wp2_with (at_builtin;refine wpList_append_own _ rfl _ _ 79 rfl w.heap.size 5 i0 (.int .u8 0) 1 1 Tryz.underlying79 hi hz0 hz1 hz2 rfl (by omega) _ _ _ rfl (HO.out.alloc _) ⟨wr.heap.size,0,none⟩ 1 1 [Value.int .u8 0] rfl rfl (cell_one_new _ _ _) (one_u8 0) N2.out N3.out (N4.out _) ?_;intro v3 w3 hown hgrow _)
    have HB3:Hid (Below w.heap.size w w3):=own_step HB.out HO.out hgrow;obtain ⟨g3,c3,rfl⟩:=ownsRow_succ hown;have HO3:Hid (w3.ownsRow w.heap.size 5 1 (.slice (some ⟨g3,0,none⟩) (L+1) c3) (L+1) ((ys++128 :: List.replicate (j+1) 0).map V8)):=by
     rw [List.replicate_succ',←List.cons_append,←List.append_assoc,List.map_append];exact hown
    clear hown hgrow;go_wp2;go_roundw
    case rel=>exact ⟨L+1,j+1,_,_,rfl,by show _=_;have:=HL.out;omega,by omega,by have:=HL.out;have:=HK.out;omega,HO3,HB3⟩
    case measure=>have:=HL.out;simp;omega
  · obtain rfl:K=j:=by omega
    have t3:((r:Int) != 56)=false:=by
     have h1:=HK.out;have h2:=HL.out;have h3:=Hr.out;have:(r:Int)=56:=by omega
     rw [this];rfl
    have HO4:Hid (wr.ownsRow w.heap.size 5 1 (.slice B L c) (L+0) ((ys++padHead n++lenBytes n 0).map V8)):=by
     show World.ownsRow _ _ _ _ _ _ _
     rw [padHead,HK.out.1];have:lenBytes n 0=[]:=rfl;rw [this,List.append_nil];exact HO.out
    obtain ⟨z,HZ⟩:∃z,Hid (n*8=z):=⟨_,rfl⟩;have w8:IntKind.u64.wrap ((n:Int)*8)=(z:Int):=by
     rw [←HZ.out];simp [IntKind.wrap,IntKind.signed,IntKind.bits];omega
    clear HO;obtain ⟨wo,rfl⟩:∃wo,wo=wr:=⟨_,rfl⟩;go_wp2;go_loopw [3,5] (fun v i wr=>∃(j L:Nat) (q:Int) (B:Option Addr) (c:Nat),j≤8∧v=.slice B L c∧i=.int .i64 q∧Hid (q=7 - (j:Int))∧Hid (L=n+1+K+j)∧Hid (wr.ownsRow w.heap.size 5 1 (.slice B L c) L ((ys++padHead n++lenBytes n j).map V8))∧Hid (Below w.heap.size w wr))
     (fun _ i _=>(intOf i+1).toNat)
    case atStart=>exact ⟨0,L,7,B,c,by omega,rfl,rfl,rfl,HL,HO4,HB⟩
    case round =>
     obtain ⟨j,L2,q,B2,cc,hj8,rfl,rfl,HQ,HL2,HO5,HB5⟩:=hrel;by_cases hlt8:j < 8
     · obtain ⟨sh,rfl⟩:∃sh:Nat,q=(sh:Int):=⟨7 - j,by have:=HQ.out;omega⟩
       have hsh:(0:Int)≤(sh:Int):=by omega
       have hsh2:(sh:Int)≤7:=by have:=HQ.out;omega
       have M1:Hid (∀u∈[Value.int .u8 ((z:Int) / 2 ^ (8*sh) % 256)],u.oneCell'=true):=one_u8 _;have hb:L2≤200000:=by have:=HL2.out;have:=HK.out;omega
       have M2:Hid (L2+1≤maxLen):=by show _≤_;unfold maxLen;omega
       have M3:Hid ((L2+1)*1≤140737488355328):=by show _≤_;omega
       have M4:Hid (∀o,w.heap.size≤(wr.alloc o).heap.size):=by intro o;have:=HB5.out.size;simp;omega
       have M5:Hid (Value.int .u8 ((z:Int) / 2 ^ (8*sh) % 256)=V8 (lenByte n j)):=by
        have e:8*sh=56 - 8*j:=by have:=HQ.out;omega
        show Value.int _ _=Value.int _ _
        rw [lenByte,b8_ofNat,e,←HZ.out];norm_cast
       go_wp2_with (at_builtin;refine wpList_append_own _ rfl _ _ 79 rfl w.heap.size 5 i0 (.int .u8 0) 1 1 Tryz.underlying79 hi hz0 hz1 hz2 rfl (by omega) _ _ _ rfl (HO5.out.alloc _) ⟨wr.heap.size,0,none⟩ 1 1 [Value.int .u8 ((z:Int) / 2 ^ (8*sh) % 256)] rfl rfl (cell_one_new _ _ _) M1.out M2.out M3.out (M4.out _) ?_;intro v6 w6 hown hgrow _)
       have HB6:Hid (Below w.heap.size w w6):=own_step HB5.out HO5.out hgrow;obtain ⟨g6,c6,rfl⟩:=ownsRow_succ hown;have HO6:Hid (w6.ownsRow w.heap.size 5 1 (.slice (some ⟨g6,0,none⟩) (L2+1) c6) (L2+1) ((ys++padHead n++lenBytes n (j+1)).map V8)):=by
        rw [lenBytes_next,←List.append_assoc,List.map_append,List.map_cons,←M5.out];exact hown
       clear hown hgrow;go_wp2;go_roundw
       case rel=>exact ⟨j+1,L2+1,(sh:Int) - 1,_,_,by omega,rfl,rfl,by show _=_;have:=HQ.out;omega,by show _=_;have:=HL2.out;omega,HO6,HB6⟩
       case measure=>simp [intOf]
     · obtain rfl:j=8:=by omega
       have hq:q < 0:=by have:=HQ.out;omega
       go_wp2;go_ret;refine ⟨_,rfl,?_,HB5.out⟩;have e:(ys++padL n).length=L2:=by
        have h1:=HK.out;have h2:=HL2.out;have h3:=HN.out;simp [padL,padHead,lenBytes];omega
       have e2:ys++padL n=ys++padHead n++lenBytes n 8:=by rw [padL,List.append_assoc]
       rw [e,e2];exact HO5.out
end Go.Proofs.YtahkcemdbfjilaaGreatDoor.Sha
namespace Go.Proofs.YtahkcemdbfjilaaGreatDoor.Sha
open Go.RowKit
set_option maxHeartbeats 400000 in
theorem turned_any (x:BitVec 32) (n:Nat) (h1:1≤n) (h2:n≤31) (w:World) :
 Calls Tryz.prog 202 #[.int .u32 (u x),.int .i64 (n:Int)] w fun e w'=>e=.returned (.int .u32 (u (rotR x n)))∧w=w':=by
 obtain ⟨m,HM⟩:∃m,Hid (32 - n=m):=⟨_,rfl⟩;have w1:(32:Int) - (n:Int)=(m:Int):=by have:=HM.out;omega
 have hm0:(0:Int)≤(m:Int):=by omega
 have hm:(m:Int)≤31:=by have:=HM.out;omega
 have hn:(n:Int)≤31:=by omega
 go_enter Tryz.func202,Tryz.ntmps202
 go_wp2;go_ret;refine ⟨?_,rfl⟩;show Ending.returned (.int .u32 (bits .or .u32 (u x / 2 ^ n) (u x*2 ^ m % 4294967296)))=_
 rw [shl32,shr32,or32,←rot32 x n h2,HM.out,BitVec.or_comm]
end Go.Proofs.YtahkcemdbfjilaaGreatDoor.Sha
