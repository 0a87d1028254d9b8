/- Several texts in one. Conditions: those said at each. -/
import Derived.Maps.AppendAt
import Derived.Laws.AppendOwn
import Derived.Deep.LoopGhost
import Derived.Test.YtahkcemdbfjilaaGreatDoorIt03
set_option linter.unusedSimpArgs false
set_option linter.unusedVariables false
set_option maxRecDepth 100000
namespace Go.Proofs.YtahkcemdbfjilaaGreatDoor.Rf
open Go.RowKit
theorem ret_str {a b:ByteArray} (h:a=b):Ending.returned (.string a)=.returned (.string b):=by rw [h]
theorem pieces_no (l:List UInt8) (h:∀c∈l,c≠47):pieces l=[l]:=by
 induction l with
 | nil=>rfl
 | cons c l ih=>rw [pieces,if_neg (h c List.mem_cons_self),ih (fun d hd=>h d (List.mem_cons_of_mem _ hd))]
theorem pieces_at (m:Nat):∀l:List UInt8,m < l.length→(∀c∈l.take m,c≠47)→at8 l m=47→pieces l=l.take m :: pieces (l.drop (m+1)):=by
 induction m with
 | zero =>
  intro l hm _ h47
  cases l with
  | nil=>simp at hm
  | cons c l=>simp [at8] at h47;rw [pieces,if_pos h47];rfl
 | succ m ih =>
  intro l hm h h47
  cases l with
  | nil=>simp at hm
  | cons c l =>
   have hc:c≠47:=h c (by simp)
   rw [pieces,if_neg hc,ih l (by simpa using hm) (fun d hd=>h d (by simp [hd])) (by simpa [at8] using h47)]
   rfl
def S9 (x:List UInt8):Value:=.string (ba x)
theorem infoStr:(Tryz.prog.info? 9).map (fun i=>(i.zero,i.size,i.bytes))=some (some (.string ⟨#[]⟩),1,16):=by kernel_rfl
theorem ba_mid (s:ByteArray) (f k:Nat):s.extract f k=ba (((tl s).drop f).take (k - f)):=by
 apply ByteArray.ext;apply Array.ext';simp [ba,tl]
theorem at8_drop (l:List UInt8) (f m:Nat):at8 (l.drop f) m=at8 l (f+m):=by simp [at8,List.getD,List.getElem?_drop]
theorem take_more (l:List UInt8) (m:Nat) (hm:m < l.length) (h:∀c∈l.take m,c≠47) (hx:at8 l m≠47):∀c∈l.take (m+1),c≠47:=by
 intro c hc;rw [List.take_succ_eq_append_getElem hm] at hc;rcases List.mem_append.1 hc with hc | hc
 · exact h c hc
 · have e:at8 l m=l[m]:=by simp [at8,List.getD,List.getElem?_eq_getElem hm]
   simp only [List.mem_singleton] at hc;rw [hc,←e];exact hx
def PI (l:List UInt8) (D:List (List UInt8)) (f k:Nat):Prop:=f≤k∧D.length≤k∧pieces l=D++pieces (l.drop f)∧∀c∈(l.drop f).take (k - f),c≠47
theorem PI.slash {l:List UInt8} {D:List (List UInt8)} {f k:Nat} (h:PI l D f k) (hk:k < l.length) (hx:at8 l k=47):PI l (D++[(l.drop f).take (k - f)]) (k+1) (k+1):=by
 obtain ⟨h1,h2,h3,h4⟩:=h;refine ⟨Nat.le_refl _,by simp;omega,?_,by simp⟩
 rw [h3,pieces_at (k - f) (l.drop f) (by rw [List.length_drop];omega) h4 (by rw [at8_drop,←hx];congr 1;omega),List.drop_drop,List.append_assoc]
 rw [show f+(k - f+1)=k+1 by omega];rfl
theorem PI.on {l:List UInt8} {D:List (List UInt8)} {f k:Nat} (h:PI l D f k) (hk:k < l.length) (hx:at8 l k≠47):PI l D f (k+1):=by
 obtain ⟨h1,h2,h3,h4⟩:=h;refine ⟨by omega,by omega,h3,?_⟩
 rw [show k+1 - f=(k - f)+1 by omega]
 exact take_more _ _ (by rw [List.length_drop];omega) h4 (by rw [at8_drop,show f+(k - f)=k by omega];exact hx)
theorem PI.stop {l:List UInt8} {D:List (List UInt8)} {f k:Nat} (h:PI l D f k) (hk:k=l.length):pieces l=D++[l.drop f]:=by
 obtain ⟨h1,h2,h3,h4⟩:=h;rw [h3,pieces_no];rw [List.take_of_length_le (by rw [List.length_drop];omega)] at h4
 exact h4
theorem S9_one (b:ByteArray):∀u∈[Value.string b],u.oneCell'=true:=by
 intro u hu;rw [List.mem_singleton] at hu;subst hu;rfl
set_option maxHeartbeats 1000000 in
theorem rpieces_any (s:ByteArray) (w:World) (hs:s.size≤4000) :
 Calls Tryz.prog 107 #[.string s] w fun e w'=>∃v,e=.returned v∧w'.ownsRow w.heap.size 9 1 v (pieces (tl s)).length ((pieces (tl s)).map S9)∧Below w.heap.size w w':=by
 obtain ⟨i0,hi,hz0,hz1,hz2⟩:=info_parts infoStr;have L1:Hid ((tl s).length=s.size):=tl_length s;go_enter Tryz.func107,Tryz.ntmps107
 go_wp2;go_loopw [3,4,5] (fun v fv iv wr=>∃(D:List (List UInt8)) (f k:Nat),fv=.int .i64 (f:Int)∧iv=.int .i64 (k:Int)∧f≤k∧k≤s.size∧D.length≤k∧Hid (PI (tl s) D f k)∧Hid (wr.ownsRow w.heap.size 9 1 v D.length (D.map S9))∧Hid (Below w.heap.size w wr))
  (fun _ _ i _=>s.size - (intOf i).toNat)
 case atStart=>exact ⟨[],0,0,rfl,rfl,by omega,by omega,by simp,⟨by omega,by simp,rfl,by simp⟩,World.ownsRow_nil _ _ _ _,Below.refl _ _⟩
 case round =>
  obtain ⟨D,f,k,rfl,rfl,hf,hk,hD,HP,HO,HB⟩:=hrel;have N2:Hid (D.length+1≤maxLen):=by show _≤_;unfold maxLen;omega
  have N3:Hid ((D.length+1)*16≤140737488355328):=by show _≤_;omega
  have N4:Hid (∀o,w.heap.size≤(wr.alloc o).heap.size):=by intro o;have:=HB.out.size;simp;omega
  have hfk:(f:Int)≤(k:Int):=by omega
  by_cases hlt:k < s.size
  · have i1:=index_str s k hlt
    have HS:=hid (fun hx:at8 (tl s) k=47=>HP.out.slash (by rw [L1.out];exact hlt) hx)
    have HN:=hid (fun hx:at8 (tl s) k≠47=>HP.out.on (by rw [L1.out];exact hlt) hx)
    generalize at8 (tl s) k=x at i1 HS HN;have b1:=b8_nonneg x;have b2:=b8_lt x;have hks:(k:Int)≤(s.size:Int):=by omega
    by_cases c:b8 x=47
    · have t1:(b8 x == 47)=true:=by simp [c]
      have HS2:=hid (HS.out (b8_inj c));clear c HS HN;go_wp2_with (at_builtin;refine wpList_append_own _ rfl _ _ 34 rfl w.heap.size 9 i0 (.string ⟨#[]⟩) 1 16 Tryz.underlying34 hi hz0 hz1 hz2 rfl (by omega) _ _ _ rfl (HO.out.alloc _) ⟨wr.heap.size,0,none⟩ 1 1 [Value.string (s.extract f k)] rfl rfl (cell_one_new _ _ _) (S9_one _) N2.out N3.out (N4.out _) ?_;intro v' w1 hown' hgrow _)
      have HO2:Hid (w1.ownsRow w.heap.size 9 1 v' (D++[((tl s).drop f).take (k - f)]).length ((D++[((tl s).drop f).take (k - f)]).map S9)):=by
       rw [List.map_append,List.length_append];rw [ba_mid] at hown';exact hown'
      have HB2:Hid (Below w.heap.size w w1) :=
       ((HB.out.alloc HB.out.size _).grown hgrow (N4.out _) (fun g hg=>by
         rcases HO.out.2 with ⟨rfl,_⟩ | ⟨g',_,_,rfl,hle,_⟩
         · cases hg
         · obtain rfl:=Option.some.inj hg;exact hle))
      clear hown' hgrow;go_wp2;go_roundw
      case rel=>exact ⟨_,k+1,k+1,by go_num,by go_num,by omega,by omega,by rw [List.length_append,List.length_singleton];omega,HS2,HO2,HB2⟩
      case measure=>simp [intOf];omega
    · have t1:(b8 x == 47)=false:=by simp [c]
      have HN2:=hid (HN.out (fun e=>c (by rw [e];rfl)))
      clear c HS HN;go_wp2;go_roundw
      case rel=>exact ⟨D,f,k+1,by go_num,by go_num,by omega,by omega,by omega,HN2,HO,HB⟩
      case measure=>simp [intOf];omega
  · have hlt':¬(k:Int) < (s.size:Int):=by omega
    have HV:=hid (HP.out.stop (by rw [L1.out];omega))
    have hfs:(f:Int)≤(s.size:Int):=by omega
    go_wp2_with (at_builtin;refine wpList_append_own _ rfl _ _ 34 rfl w.heap.size 9 i0 (.string ⟨#[]⟩) 1 16 Tryz.underlying34 hi hz0 hz1 hz2 rfl (by omega) _ _ _ rfl (HO.out.alloc _) ⟨wr.heap.size,0,none⟩ 1 1 [Value.string (s.extract f s.size)] rfl rfl (cell_one_new _ _ _) (S9_one _) N2.out N3.out (N4.out _) ?_;intro v' w1 hown' hgrow _)
    have HO2:Hid (w1.ownsRow w.heap.size 9 1 v' (pieces (tl s)).length ((pieces (tl s)).map S9)):=by
     rw [HV.out,List.map_append,List.length_append];rw [ba_drop] at hown';exact hown'
    have HB2:Hid (Below w.heap.size w w1) :=
     ((HB.out.alloc HB.out.size _).grown hgrow (N4.out _) (fun g hg=>by
       rcases HO.out.2 with ⟨rfl,_⟩ | ⟨g',_,_,rfl,hle,_⟩
       · cases hg
       · obtain rfl:=Option.some.inj hg;exact hle))
    clear hown' hgrow;go_wp2;go_ret;exact ⟨_,rfl,HO2.out,HB2.out⟩
structure Strs (w:World) (v:Value) (xs:List (List UInt8)) (g c:Nat):Prop where
 form:v=.slice (some ⟨g,0,none⟩) xs.length c
 at_:∀i,i < xs.length→w.cell? ⟨g,i,none⟩=some (S9 (xs.getD i []))
 blk:g < w.heap.size
theorem strs_of_own {w:World} {B:Nat} {v:Value} {xs:List (List UInt8)} (h:w.ownsRow B 9 1 v xs.length (xs.map S9)) (hne:xs≠[]):∃g c,Strs w v xs g c∧B≤g:=by
 have hc:=fun g hg=>h.cells (g:=g) hg
 have hlt:=h.lt;rcases h.2 with ⟨_,h2⟩ | ⟨g,c,cs,rfl,hle,_⟩
 · exact absurd (List.length_eq_zero_iff.1 h2) hne
 · refine ⟨g,c,⟨rfl,fun i hi=>?_,(hlt g rfl).2⟩,hle⟩
   have:=hc g rfl i (S9 (xs.getD i [])) (by rw [List.getElem?_map,List.getElem?_eq_getElem hi];simp [List.getD,List.getElem?_eq_getElem hi])
   have e:(⟨g,0,none⟩:Addr).add i=⟨g,i,none⟩:=by unfold Addr.add;split<;>simp_all
   rwa [e] at this
theorem Strs.kept {w w':World} {B:Nat} {v:Value} {xs:List (List UInt8)} {g c:Nat} (h:Strs w v xs g c) (hb:Below B w w') (hB:w.heap.size≤B):Strs w' v xs g c :=
 ⟨h.form,fun i hi=>(hb.cell (p:=⟨g,i,none⟩) (Nat.lt_of_lt_of_le h.blk hB)).trans (h.at_ i hi),Nat.lt_of_lt_of_le h.blk hb.size⟩
theorem pieces_count (n:Nat):∀l:List UInt8,l.length≤n→(pieces l).length≤l.length+1:=by
 induction n with
 | zero=>intro l h;obtain rfl:=List.length_eq_zero_iff.1 (Nat.le_zero.1 h);simp [pieces]
 | succ n ih =>
  intro l h;rw [pieces_cut];have h1:=cutS_len l;split
  · rename_i hc
    have:=h1.2.2 hc;have:=ih (cutS l).2.1 (by omega)
    simp only [List.length_cons];omega
  · simp
theorem lastP_getD (l:List UInt8):(pieces l).getD ((pieces l).length - 1) []=lastP l:=by
 have h:=pieces_ne l;have hl:0 < (pieces l).length:=List.length_pos_iff.2 h;rw [lastP,List.getLast_eq_getElem,List.getD,List.getElem?_eq_getElem (by omega)];rfl
set_option maxHeartbeats 400000 in
theorem rlast_any (s:ByteArray) (w:World) (hs:s.size≤4000) :
 Calls Tryz.prog 161 #[.string s] w fun e w'=>e=.returned (.string (ba (lastP (tl s))))∧Below w.heap.size w w':=by
 have H:=hid (rpieces_any s w hs);obtain ⟨n,HN⟩:∃n,Hid ((pieces (tl s)).length=n+1):=⟨(pieces (tl s)).length - 1,by
  show _=_;have:=List.length_pos_iff.2 (pieces_ne (tl s));omega⟩
 have hn:n≤4000:=by have:=pieces_count _ (tl s) (Nat.le_refl _);rw [HN.out,tl_length] at this;omega
 obtain ⟨r,HR⟩:∃r,Hid (ba (lastP (tl s))=r):=⟨_,rfl⟩;go_enter Tryz.func161,Tryz.ntmps161
 go_wp2_with fail
 refine H.out.mono ?_;rintro e1 w1 ⟨v,rfl,ho,hb⟩;obtain ⟨g,c,hs1,hg⟩:=strs_of_own ho (pieces_ne (tl s));have B1:=hid hb;have hv:=hs1.form;have hc:w1.cell? ⟨g,n,none⟩=some (.string r):=by
  have:=hs1.at_ n (by rw [HN.out];omega)
  rw [this,S9,←HR.out,←lastP_getD,HN.out];rfl
 rw [HN.out] at hv;have hcast:((n+1:Nat):Int) - 1=(n:Int):=by omega
 clear ho hb hs1 hg;subst hv;go_wp2;go_ret;exact ⟨ret_str HR.out.symm,B1.out⟩
set_option maxHeartbeats 400000 in
theorem rahead_any (s:ByteArray) (w:World) (hs:s.size≤4000) :
 Calls Tryz.prog 108 #[.string s] w fun e w'=>e=.returned (.string (ba (aheadL (tl s))))∧Below w.heap.size w w':=by
 obtain ⟨r,HR⟩:∃r,Hid (ba (lastP (tl s))=r):=⟨_,rfl⟩;have H:Hid (Calls Tryz.prog 161 #[.string s] w fun e w'=>e=.returned (.string r)∧Below w.heap.size w w'):=by rw [←HR.out];exact rlast_any s w hs
 have hr:r.size≤s.size:=by rw [←HR.out,ba_size];have:=pieces_len _ (tl s) (Nat.le_refl _) _ (lastP_mem (tl s));rw [tl_length] at this;exact this
 have HA:Hid (aheadL (tl s)=(tl s).take (s.size - r.size - 1)):=by show _=_;rw [aheadL,tl_length,←HR.out,ba_size]
 by_cases h:(s.size:Int) - (r.size:Int) - 1 < 0
 · have HV:Hid (aheadL (tl s)=[]):=by
    show _=_;rw [HA.out,show s.size - r.size - 1=0 by omega];rfl
   go_enter Tryz.func108,Tryz.ntmps108
   go_wp2_with (go_at_call 161;refine H.out.mono ?_;rintro e1 w1 ⟨rfl,hb⟩;have B1:=hid hb;clear hb)
   go_ret;exact ⟨ret_str (by rw [HV.out];rfl),B1.out⟩
 · obtain ⟨k,hk⟩:∃k:Nat,(s.size:Int) - (r.size:Int) - 1=(k:Int):=⟨s.size - r.size - 1,by omega⟩
   have HV:Hid (aheadL (tl s)=(tl s).take k):=by
    show _=_;rw [HA.out];congr 1;omega
   have hks:(k:Int)≤(s.size:Int):=by omega
   clear h;go_enter Tryz.func108,Tryz.ntmps108
   go_wp2_with (go_at_call 161;refine H.out.mono ?_;rintro e1 w1 ⟨rfl,hb⟩;have B1:=hid hb;clear hb)
   go_ret;exact ⟨ret_str (by rw [HV.out,ba_take]),B1.out⟩
set_option maxHeartbeats 1000000 in
theorem rname_any (s:ByteArray) (w:World) (hs:s.size≤140737488355328) :
 Calls Tryz.prog 109 #[.string s] w fun e w'=>e=.returned (.bool (nameB (tl s)))∧w=w':=by
 have hc:Hid (s.toList=tl s):=toList_tl s;have hz:Hid (s.size=(tl s).length):=(tl_length s).symm;have hcase:(s.size=0)∨(s.size≠0∧48 < s.size)∨(s.size≠0∧s.size≤48∧s.toList=[46])∨(s.size≠0∧s.size≤48∧s.toList≠[46]∧s.toList=[46,46])∨(s.size≠0∧s.size≤48∧s.toList≠[46]∧s.toList≠[46,46]):=by
  by_cases h1:s.size=0
  · exact .inl h1
  · by_cases h2:s.size≤48
    · by_cases h3:s.toList=[46]
      · exact .inr (.inr (.inl ⟨h1,h2,h3⟩))
      · by_cases h4:s.toList=[46,46]
        · exact .inr (.inr (.inr (.inl ⟨h1,h2,h3,h4⟩)))
        · exact .inr (.inr (.inr (.inr ⟨h1,h2,h3,h4⟩)))
    · exact .inr (.inl ⟨h1,by omega⟩)
 rcases hcase with h1 | ⟨h1,h2⟩ | ⟨h1,h2,h3⟩ | ⟨h1,h2,h3,h4⟩ | ⟨h1,h2,h3,h4⟩
 · have hn:Hid (nameB (tl s)=false):=by
    show _=_
    have:tl s=[]:=List.length_eq_zero_iff.1 (hz.out.symm.trans h1);rw [this];rfl
   have g1:((s.size:Int) < 1):=by omega
   clear h1;go_enter Tryz.func109,Tryz.ntmps109
   go_wp2;go_ret;exact ⟨ret_bool hn.out.symm,rfl⟩
 · have hn:Hid (nameB (tl s)=false):=by show _=_;simp [nameB,headB,←hz.out];omega
   have g1:¬((s.size:Int) < 1):=by omega
   have g2:(48:Int) < (s.size:Int):=by omega
   clear h1 h2;go_enter Tryz.func109,Tryz.ntmps109
   go_wp2;go_ret;exact ⟨ret_bool hn.out.symm,rfl⟩
 · have hn:Hid (nameB (tl s)=false):=by show _=_;simp [nameB,headB,←hc.out,h3]
   have g1:¬((s.size:Int) < 1):=by omega
   have g2:¬(48:Int) < (s.size:Int):=by omega
   have g3:(s.toList == [46])=true:=by simp [h3]
   clear h1 h2 h3;go_enter Tryz.func109,Tryz.ntmps109
   go_wp2;go_ret;exact ⟨ret_bool hn.out.symm,rfl⟩
 · have hn:Hid (nameB (tl s)=false):=by show _=_;simp [nameB,headB,←hc.out,h4]
   have g1:¬((s.size:Int) < 1):=by omega
   have g2:¬(48:Int) < (s.size:Int):=by omega
   have g3:(s.toList == [46])=false:=by simp [h3]
   have g4:(s.toList == [46,46])=true:=by simp [h4]
   clear h1 h2 h3 h4;go_enter Tryz.func109,Tryz.ntmps109
   go_wp2;go_ret;exact ⟨ret_bool hn.out.symm,rfl⟩
 · have hn:Hid (headB (tl s)=true):=by
    show _=_
    have h0:tl s≠[]:=fun e=>h1 (by rw [hz.out,e];rfl)
    simp [headB,←hc.out,h3,h4];rw [hc.out,←hz.out];exact ⟨h0,h2⟩
   have g1:¬((s.size:Int) < 1):=by omega
   have g2:¬(48:Int) < (s.size:Int):=by omega
   have g3:(s.toList == [46])=false:=by simp [h3]
   have g4:(s.toList == [46,46])=false:=by simp [h4]
   clear h1 h2 h3 h4;go_enter Tryz.func109,Tryz.ntmps109
   go_wp2;go_loopw [3] (fun i wr=>∃k:Nat,k≤s.size∧i=.int .i64 (k:Int)∧Hid (((tl s).take k).all okB=true)∧w=wr)
    (fun i _=>s.size - (intOf i).toNat)
   case atStart=>exact ⟨0,by omega,rfl,rfl,rfl⟩
   case round =>
    obtain ⟨k,hk,rfl,HA,rfl⟩:=hrel;by_cases hlt:k < s.size
    · have i1:=index_str s k hlt
      have HY:=hid (okB_at (tl s) k (by rw [tl_length];exact hlt) HA.out)
      have HN:=hid (okB_no (tl s) k (by rw [tl_length];exact hlt))
      generalize at8 (tl s) k=x at i1 HY HN;have b1:=b8_nonneg x;have b2:=b8_lt x;by_cases c1:b8 x < 32
      · have HO:Hid (okB x=false):=by show _=_;simp [okB,c1]
        have t1:decide (b8 x < 32)=true:=by simp [c1]
        clear c1;go_wp2;go_ret;exact ⟨ret_bool (HN.out HO.out).symm,rfl⟩
      · have t1:decide (b8 x < 32)=false:=by simp [c1]
        by_cases c2:b8 x=127
        · have HO:Hid (okB x=false):=by show _=_;simp [okB,c2]
          have t2:(b8 x == 127)=true:=by simp [c2]
          clear c1 c2;go_wp2;go_ret;exact ⟨ret_bool (HN.out HO.out).symm,rfl⟩
        · have t2:(b8 x == 127)=false:=by simp [c2]
          by_cases c3:b8 x=47
          · have HO:Hid (okB x=false):=by show _=_;simp [okB,c3]
            have t3:(b8 x == 47)=true:=by simp [c3]
            clear c1 c2 c3;go_wp2;go_ret;exact ⟨ret_bool (HN.out HO.out).symm,rfl⟩
          · have t3:(b8 x == 47)=false:=by simp [c3]
            have HO:Hid (okB x=true):=by show _=_;simp [okB,c1,c2,c3]
            clear c1 c2 c3;go_wp2;go_roundw
            case rel=>exact ⟨k+1,by omega,by go_num,HY.out HO.out,trivial⟩
            case measure=>simp [intOf];omega
    · have HK:Hid (k=s.size):=by show _=_;omega
      go_wp2;go_ret;refine ⟨ret_bool ?_,rfl⟩;have ha:=HA.out;rw [List.take_of_length_le (by rw [tl_length,HK.out];exact Nat.le_refl _)] at ha
      simp [nameB,hn.out,ha]
theorem all_at {xs:List (List UInt8)} {k:Nat} (h:k < xs.length) (ha:(xs.take k).all nameB=true) (hk:nameB (xs.getD k [])=true):(xs.take (k+1)).all nameB=true:=by
 rw [List.take_succ_eq_append_getElem h,List.all_append,ha];simp only [List.getD,List.getElem?_eq_getElem h,Option.getD_some] at hk;simp [hk]
theorem all_no {xs:List (List UInt8)} {k:Nat} (h:k < xs.length) (hk:nameB (xs.getD k [])=false):xs.all nameB=false:=by
 simp only [List.getD,List.getElem?_eq_getElem h,Option.getD_some] at hk;rw [List.all_eq_false];exact ⟨_,List.getElem_mem h,by simp [hk]⟩
set_option maxHeartbeats 1000000 in
theorem rmay_any (s:ByteArray) (w:World) (hs:s.size≤4000) :
 Calls Tryz.prog 62 #[.string s] w fun e w'=>e=.returned (.bool (mayB (tl s)))∧Below w.heap.size w w':=by
 have H:=hid (rpieces_any s w hs);obtain ⟨n,HN⟩:∃n,Hid ((pieces (tl s)).length=n):=⟨_,rfl⟩;have hn:n≤4001:=by have:=pieces_count _ (tl s) (Nat.le_refl _);rw [HN.out,tl_length] at this;omega
 obtain ⟨a,HA⟩:∃a,Hid (ba (aheadL (tl s))=a):=⟨_,rfl⟩;have HC:Hid (∀W,Calls Tryz.prog 108 #[.string s] W fun e w'=>e=.returned (.string a)∧Below W.heap.size W w'):=by intro W;rw [←HA.out];exact rahead_any s W hs
 have HS:Hid ((aheadL (tl s)).length=a.size):=by show _=_;rw [←HA.out,ba_size]
 have HL:Hid ((tl s).length=s.size):=tl_length s;have HT:Hid (∀i,i < n→((pieces (tl s)).getD i []).length≤4000):=by
  intro i hi;have hm:(pieces (tl s)).getD i []∈pieces (tl s):=by
   rw [←HN.out] at hi;simp [List.getD,List.getElem?_eq_getElem hi]
  have:=pieces_len _ (tl s) (Nat.le_refl _) _ hm;rw [HL.out] at this;omega
 by_cases h1:s.size≤160
 · have g1:¬(160:Int) < (s.size:Int):=by omega
   by_cases h2:a.size≤111
   · have g2:¬(111:Int) < (a.size:Int):=by omega
     by_cases h3:n≤6
     · have g3:¬(6:Int) < (n:Int):=by omega
       have HV:Hid (mayB (tl s)=(pieces (tl s)).all nameB):=by
        show _=_
        rw [mayB,goodB,HL.out,HS.out,HN.out,decide_eq_true h1,decide_eq_true h2,decide_eq_true h3];simp
       clear h1 h2 h3;go_enter Tryz.func62,Tryz.ntmps62
       go_wp2_with fail
       refine H.out.mono ?_;rintro e1 w1 ⟨v,rfl,ho,hb⟩;obtain ⟨g,c,hs1,hg⟩:=strs_of_own ho (pieces_ne (tl s));have B1:=hid hb;have hv:=hs1.form;rw [HN.out] at hv;have S1:=hid hs1;clear ho hb hs1 hg;subst hv;go_wp2_with fail
       refine (HC.out _).mono ?_;rintro e2 w2 ⟨rfl,hb2⟩;have S2:=hid (S1.out.kept hb2 (Nat.le_refl _));have B2:Hid (Below w.heap.size w w2):=B1.out.trans (hb2.mono B1.out.size);clear hb2;go_wp2;go_loopw [4] (fun i wr=>∃k:Nat,k≤n∧i=.int .i64 (k:Int)∧Hid (((pieces (tl s)).take k).all nameB=true)∧w2=wr)
        (fun i _=>n - (intOf i).toNat)
       case atStart=>exact ⟨0,by omega,rfl,rfl,rfl⟩
       case round =>
        obtain ⟨k,hk,rfl,HA2,rfl⟩:=hrel;by_cases hlt:k < n
        · have hc:w2.cell? ⟨g,k,none⟩=some (.string (ba ((pieces (tl s)).getD k []))):=S2.out.at_ k (by rw [HN.out];exact hlt)
          have hx:=HT.out k hlt;have HY:=hid (all_at (xs:=pieces (tl s)) (k:=k) (by rw [HN.out];exact hlt) HA2.out)
          have HNo:=hid (all_no (xs:=pieces (tl s)) (k:=k) (by rw [HN.out];exact hlt))
          generalize (pieces (tl s)).getD k []=x at hc hx HY HNo
          cases hb:nameB x with
          | true =>
           have HM:Hid (∀W,Calls Tryz.prog 109 #[.string (ba x)] W fun e w'=>e=.returned (.bool true)∧W=w'):=by
            intro W;have:=rname_any (ba x) W (by rw [ba_size];omega);rw [tl_ba,hb] at this;exact this
           have HY2:=hid (HY.out hb);clear HY HNo hb hx;go_wp2_with fail
           refine (HM.out _).mono ?_;rintro e3 w3 ⟨rfl,rfl⟩;go_wp2;go_roundw
           case rel=>exact ⟨k+1,by omega,by go_num,HY2.out,trivial⟩
           case measure=>simp [intOf];omega
          | false =>
           have HM:Hid (∀W,Calls Tryz.prog 109 #[.string (ba x)] W fun e w'=>e=.returned (.bool false)∧W=w'):=by
            intro W;have:=rname_any (ba x) W (by rw [ba_size];omega);rw [tl_ba,hb] at this;exact this
           have HY2:=hid (HNo.out hb);clear HY HNo hb hx;go_wp2_with fail
           refine (HM.out _).mono ?_;rintro e3 w3 ⟨rfl,rfl⟩;go_wp2;go_ret;exact ⟨ret_bool (by rw [HV.out,HY2.out]),B2.out⟩
        · have HK:Hid (k=n):=by show _=_;omega
          go_wp2;go_ret;refine ⟨ret_bool ?_,B2.out⟩;have ha:=HA2.out;rw [List.take_of_length_le (by rw [HN.out,HK.out];exact Nat.le_refl _)] at ha
          rw [HV.out,ha]
     · have g3:(6:Int) < (n:Int):=by omega
       have HV:Hid (mayB (tl s)=false):=by
        show _=_
        rw [mayB,goodB,HN.out,decide_eq_false h3];simp
       clear h1 h2 h3;go_enter Tryz.func62,Tryz.ntmps62
       go_wp2_with fail
       refine H.out.mono ?_;rintro e1 w1 ⟨v,rfl,ho,hb⟩;obtain ⟨g,c,hs1,hg⟩:=strs_of_own ho (pieces_ne (tl s));have B1:=hid hb;have hv:=hs1.form;rw [HN.out] at hv;clear ho hb hs1 hg;subst hv;go_wp2_with fail
       refine (HC.out _).mono ?_;rintro e2 w2 ⟨rfl,hb2⟩;have B2:Hid (Below w.heap.size w w2):=B1.out.trans (hb2.mono B1.out.size);clear hb2;go_wp2;go_ret;exact ⟨ret_bool HV.out.symm,B2.out⟩
   · have g2:(111:Int) < (a.size:Int):=by omega
     have HV:Hid (mayB (tl s)=false):=by
      show _=_
      rw [mayB,HS.out,decide_eq_false h2];simp
     clear h1 h2;go_enter Tryz.func62,Tryz.ntmps62
     go_wp2_with fail
     refine H.out.mono ?_;rintro e1 w1 ⟨v,rfl,ho,hb⟩;obtain ⟨g,c,hs1,hg⟩:=strs_of_own ho (pieces_ne (tl s));have B1:=hid hb;have hv:=hs1.form;rw [HN.out] at hv;clear ho hb hs1 hg;subst hv;go_wp2_with fail
     refine (HC.out _).mono ?_;rintro e2 w2 ⟨rfl,hb2⟩;have B2:Hid (Below w.heap.size w w2):=B1.out.trans (hb2.mono B1.out.size);clear hb2;go_wp2;go_ret;exact ⟨ret_bool HV.out.symm,B2.out⟩
 · have g1:(160:Int) < (s.size:Int):=by omega
   have HV:Hid (mayB (tl s)=false):=by
    show _=_
    rw [mayB,HL.out,decide_eq_false h1];simp
   clear h1;go_enter Tryz.func62,Tryz.ntmps62
   go_wp2_with fail
   refine H.out.mono ?_;rintro e1 w1 ⟨v,rfl,ho,hb⟩;obtain ⟨g,c,hs1,hg⟩:=strs_of_own ho (pieces_ne (tl s));have B1:=hid hb;have hv:=hs1.form;rw [HN.out] at hv;clear ho hb hs1 hg;subst hv;go_wp2;go_ret;exact ⟨ret_bool HV.out.symm,B1.out⟩
def rankN (l:List UInt8) (k:Nat):Nat:=if k < l.length then rk (at8 l k)+1 else 0
theorem rank_lt {a b:List UInt8} {k:Nat} (h1:k≤a.length) (h2:k≤b.length) (h:a.take k=b.take k) (hr:rankN a k < rankN b k):cmpL a b = -1:=by
 unfold rankN at hr;have hb:k < b.length:=by
  rcases Nat.lt_or_ge k b.length with h' | h'
  · exact h'
  · rw [if_neg (show ¬k < b.length by omega)] at hr;omega
 rw [if_pos hb] at hr;by_cases ha:k < a.length
 · rw [if_pos ha] at hr
   have hne:at8 a k≠at8 b k:=by intro e;rw [e] at hr;omega
   rw [cmpL_at a b k ha hb h hne,if_pos (by omega)]
 · rw [cmpL_drop a b k h1 h2 h,List.drop_of_length_le (l:=a) (by omega),List.drop_eq_getElem_cons hb,cmpL]
theorem rank_gt {a b:List UInt8} {k:Nat} (h1:k≤a.length) (h2:k≤b.length) (h:a.take k=b.take k) (hr:rankN b k < rankN a k):cmpL a b=1:=by
 have:=rank_lt h2 h1 h.symm hr;rw [cmpL_neg] at this;omega
theorem rank_eq {a b:List UInt8} {k:Nat} (h1:k≤a.length) (h2:k≤b.length) (h:a.take k=b.take k) (hr:rankN a k=rankN b k):(a.take (k+1)=b.take (k+1))∧((k+1≤a.length∧k+1≤b.length)∨(a=b∧k=a.length)):=by
 unfold rankN at hr;by_cases ha:k < a.length<;>by_cases hb:k < b.length
 · rw [if_pos ha,if_pos hb] at hr
   exact ⟨take_same ha hb h (rk_inj (by omega)),.inl ⟨ha,hb⟩⟩
 · rw [if_pos ha,if_neg hb] at hr;omega
 · rw [if_neg ha,if_pos hb] at hr;omega
 · rw [List.take_of_length_le (by omega),List.take_of_length_le (by omega)] at h
   subst h;exact ⟨rfl,.inr ⟨rfl,by omega⟩⟩
set_option maxHeartbeats 400000 in
theorem rrank_any (s:ByteArray) (k:Nat) (w:World) (_hs:s.size≤140737488355328) (_hk:k≤140737488355330) :
 Calls Tryz.prog 209 #[.string s,.int .i64 (k:Int)] w fun e w'=>e=.returned (.int .i64 ((rankN (tl s) k:Nat):Int))∧w=w':=by
 by_cases hlt:k < s.size
 · have i1:=index_str s k hlt
   have HV:Hid (rankN (tl s) k=rk (at8 (tl s) k)+1):=by show _=_;rw [rankN,if_pos (by rw [tl_length];exact hlt)]
   have hlt':¬((s.size:Int)≤(k:Int)):=by omega
   generalize at8 (tl s) k=x at i1 HV;have b1:=b8_nonneg x;have b2:=b8_lt x;by_cases c:b8 x=47
   · have t1:(b8 x == 47)=true:=by simp [c]
     have HR:Hid (rk x=0):=by show _=_;rw [rk,if_pos (b8_inj c)]
     clear c;go_enter Tryz.func209,Tryz.ntmps209
     go_wp2;go_ret;exact ⟨ret_i64 (by rw [HV.out,HR.out];rfl),rfl⟩
   · have t1:(b8 x == 47)=false:=by simp [c]
     have HR:Hid (rk x=x.toNat+1):=by show _=_;rw [rk,if_neg (fun e=>c (by rw [e];rfl))]
     clear c;go_enter Tryz.func209,Tryz.ntmps209
     go_wp2;go_ret;exact ⟨ret_i64 (by rw [HV.out,HR.out];unfold b8;omega),rfl⟩
 · have HV:Hid (rankN (tl s) k=0):=by show _=_;rw [rankN,if_neg (by rw [tl_length];exact hlt)]
   have hle:(s.size:Int)≤(k:Int):=by omega
   go_enter Tryz.func209,Tryz.ntmps209
   go_wp2;go_ret;exact ⟨ret_i64 (by rw [HV.out];rfl),rfl⟩
set_option maxHeartbeats 400000 in
theorem rcmp_any (a b:ByteArray) (w:World) (ha:a.size≤140737488355328) (hb:b.size≤140737488355328) :
 Calls Tryz.prog 176 #[.string a,.string b] w fun e w'=>e=.returned (.int .i64 (cmpL (tl a) (tl b)))∧w=w':=by
 have L1:Hid ((tl a).length=a.size):=tl_length a;have L2:Hid ((tl b).length=b.size):=tl_length b;go_enter Tryz.func176,Tryz.ntmps176
 go_wp2;go_loopw [5] (fun i wr=>∃k:Nat,i=.int .i64 (k:Int)∧k≤a.size+1∧k≤b.size+1∧Hid ((tl a).take k=(tl b).take k)∧Hid ((k≤a.size∧k≤b.size)∨(tl a=tl b∧k=a.size+1))∧w=wr)
  (fun i _=>a.size+2 - (intOf i).toNat)
 case atStart=>exact ⟨0,rfl,by omega,by omega,rfl,.inl ⟨by omega,by omega⟩,rfl⟩
 case round =>
  obtain ⟨k,rfl,hk1,hk2,HT,HO,rfl⟩:=hrel;rcases HO.out with ⟨h1,h2⟩ | ⟨h1,h2⟩
  · have g1:(k:Int)≤(a.size:Int):=by omega
    obtain ⟨x,hx⟩:∃x,rankN (tl a) k=x:=⟨_,rfl⟩;obtain ⟨y,hy⟩:∃y,rankN (tl b) k=y:=⟨_,rfl⟩;have X:Hid (∀W,Calls Tryz.prog 209 #[.string a,.int .i64 (k:Int)] W fun e w'=>e=.returned (.int .i64 (x:Int))∧W=w'):=by intro W;rw [←hx];exact rrank_any a k W ha (by omega)
    have Y:Hid (∀W,Calls Tryz.prog 209 #[.string b,.int .i64 (k:Int)] W fun e w'=>e=.returned (.int .i64 (y:Int))∧W=w'):=by intro W;rw [←hy];exact rrank_any b k W hb (by omega)
    have P1:Hid (x < y→cmpL (tl a) (tl b) = -1):=fun h=>rank_lt (by rw [L1.out];exact h1) (by rw [L2.out];exact h2) HT.out (by rw [hx,hy];exact h)
    have P2:Hid (y < x→cmpL (tl a) (tl b)=1):=fun h=>rank_gt (by rw [L1.out];exact h1) (by rw [L2.out];exact h2) HT.out (by rw [hx,hy];exact h)
    have P3:Hid (x=y→((tl a).take (k+1)=(tl b).take (k+1))∧((k+1≤a.size∧k+1≤b.size)∨(tl a=tl b∧k+1=a.size+1))∧k+1≤b.size+1):=fun h=>by
     have:=rank_eq (by rw [L1.out];exact h1) (by rw [L2.out];exact h2) HT.out (by rw [hx,hy];exact h)
     rw [L1.out,L2.out] at this;exact ⟨this.1,this.2.imp id (fun e=>⟨e.1,by rw [e.2]⟩),by omega⟩
    clear hx hy;rcases Nat.lt_trichotomy x y with hc | hc | hc
    · have HV:=hid (P1.out hc)
      have g2:(x:Int) < (y:Int):=by omega
      clear P1 P2 P3 HO hc;go_wp2_with fail
      refine (X.out _).mono ?_;rintro e1 w1 ⟨rfl,rfl⟩;go_wp2_with fail
      refine (Y.out _).mono ?_;rintro e2 w2 ⟨rfl,rfl⟩;go_wp2;go_ret;exact ⟨ret_i64 HV.out.symm,rfl⟩
    · subst hc
      have HV:=hid (P3.out rfl);clear P1 P2 P3 HO;go_wp2_with fail
      refine (X.out _).mono ?_;rintro e1 w1 ⟨rfl,rfl⟩;go_wp2_with fail
      refine (Y.out _).mono ?_;rintro e2 w2 ⟨rfl,rfl⟩;go_wp2;go_roundw
      case rel=>exact ⟨k+1,by go_num,by omega,HV.out.2.2,HV.out.1,HV.out.2.1,trivial⟩
      case measure=>simp [intOf];omega
    · have HV:=hid (P2.out hc)
      have g2:(y:Int) < (x:Int):=by omega
      clear P1 P2 P3 HO hc;go_wp2_with fail
      refine (X.out _).mono ?_;rintro e1 w1 ⟨rfl,rfl⟩;go_wp2_with fail
      refine (Y.out _).mono ?_;rintro e2 w2 ⟨rfl,rfl⟩;go_wp2;go_ret;exact ⟨ret_i64 HV.out.symm,rfl⟩
  · have HV:Hid (cmpL (tl a) (tl b)=0):=(cmpL_zero _ _).2 h1
    have HL:Hid (a.size=b.size):=by have:=congrArg List.length h1;rw [L1.out,L2.out] at this;exact this
    have g1:¬((k:Int)≤(a.size:Int)):=by omega
    have g2:¬((k:Int)≤(b.size:Int)):=by have:=HL.out;omega
    clear HO h1 h2;go_wp2;go_ret;exact ⟨ret_i64 HV.out.symm,rfl⟩
theorem rmay_v (s:ByteArray) (v:Bool) (h:Hid (mayB (tl s)=v)) (w:World) (hs:s.size≤4000) :
 Calls Tryz.prog 62 #[.string s] w fun e w'=>e=.returned (.bool v)∧Below w.heap.size w w':=by
 rw [←h.out];exact rmay_any s w hs
set_option maxHeartbeats 400000 in
theorem rparent_any (s:ByteArray) (w:World) (hs:s.size≤4000) :
 Calls Tryz.prog 166 #[.string s] w fun e w'=>e=.returned (.tuple #[.string (ba (findV (tl s)).1),.bool (mayB (tl s))])∧Below w.heap.size w w':=by
 cases hm:mayB (tl s) with
 | false =>
  have HM:=hid hm;have HF:=hid (findV_no hm);clear hm;go_enter Tryz.func166,Tryz.ntmps166
  go_wp2_with (go_at_call 62;refine (rmay_v s false HM _ hs).mono ?_;rintro e1 w1 ⟨rfl,hb1⟩;have B1:=hid hb1;clear hb1)
  go_ret2;exact ⟨by rw [HF.out];rfl,B1.out⟩
 | true =>
  have HM:=hid hm;have HF:=hid (findV_yes hm);clear hm;go_enter Tryz.func166,Tryz.ntmps166
  go_wp2_with (first
   | (go_at_call 62;refine (rmay_v s true HM _ hs).mono ?_;rintro e1 w1 ⟨rfl,hb1⟩;have B1:=hid hb1;clear hb1)
   | (go_at_call 108;refine (rahead_any s _ hs).mono ?_;rintro e2 w2 ⟨rfl,hb2⟩;have B2:Hid (Below w.heap.size w w2):=B1.out.trans (hb2.mono B1.out.size);clear hb2))
  go_ret2;exact ⟨by rw [HF.out];rfl,B2.out⟩
theorem prefix_iff (d p:List UInt8):(d++[47]).isPrefixOf p=true↔d.length < p.length∧p.take d.length=d∧at8 p d.length=47:=by
 constructor
 · intro h
   obtain ⟨r,hr⟩:=List.isPrefixOf_iff_prefix.1 h;subst hr;refine ⟨by simp,by simp,?_⟩
   simp [at8,List.getD]
 · rintro ⟨h1,h2,h3⟩
   apply List.isPrefixOf_iff_prefix.2;refine ⟨p.drop (d.length+1),?_⟩;have e:at8 p d.length=p[d.length]:=by simp [at8,List.getD,List.getElem?_eq_getElem h1]
   rw [e] at h3;conv=>rhs;rw [←List.take_append_drop d.length p,h2,List.drop_eq_getElem_cons h1,h3]
   simp
set_option maxHeartbeats 1000000 in
theorem rwithin_any (p d:ByteArray) (w:World) (hp:p.size≤4000) (hd:d.size≤4000) :
 Calls Tryz.prog 55 #[.string p,.string d] w fun e w'=>e=.returned (.bool (withinB (tl p) (tl d)))∧Below w.heap.size w w':=by
 cases h1:mayB (tl p) with
 | false =>
  have H1:=hid h1;have HV:Hid (withinB (tl p) (tl d)=false):=by show _=_;rw [withinB,h1];split<;>rfl
  clear h1;go_enter Tryz.func55,Tryz.ntmps55
  go_wp2_with fail
  refine (rmay_v p false H1 _ hp).mono ?_;rintro e1 w1 ⟨rfl,hb1⟩;have B1:=hid hb1;clear hb1;go_wp2;go_ret;exact ⟨ret_bool HV.out.symm,B1.out⟩
 | true =>
  have H1:=hid h1;by_cases h0:d.toList=[]
  · have h0':(!d.toList.isEmpty)=false:=by simp [h0]
    have HV:Hid (withinB (tl p) (tl d)=true):=by show _=_;rw [withinB,if_pos (by rw [←toList_tl,h0]),h1]
    clear h1;go_enter Tryz.func55,Tryz.ntmps55
    go_wp2_with fail
    refine (rmay_v p true H1 _ hp).mono ?_;rintro e1 w1 ⟨rfl,hb1⟩;have B1:=hid hb1;clear hb1;go_wp2;go_ret;exact ⟨ret_bool HV.out.symm,B1.out⟩
  · have h0':(!d.toList.isEmpty)=true:=by simp [h0]
    have h0'':d.toList.isEmpty=false:=by simp [h0]
    have hd0:tl d≠[]:=by rw [←toList_tl];exact h0
    cases h2:mayB (tl d) with
    | false =>
     have H2:=hid h2;have HV:Hid (withinB (tl p) (tl d)=false):=by show _=_;rw [withinB,if_neg hd0,h1,h2];rfl
     clear h1 h2;go_enter Tryz.func55,Tryz.ntmps55
     go_wp2_with fail
     refine (rmay_v p true H1 _ hp).mono ?_;rintro e1 w1 ⟨rfl,hb1⟩;have B1:=hid hb1;clear hb1;go_wp2_with fail
     refine (rmay_v d false H2 _ hd).mono ?_;rintro e2 w2 ⟨rfl,hb2⟩;have B2:Hid (Below w.heap.size w w2):=B1.out.trans (hb2.mono B1.out.size);clear hb2;go_wp2;go_ret;exact ⟨ret_bool HV.out.symm,B2.out⟩
    | true =>
     have H2:=hid h2;have HW:withinB (tl p) (tl d)=(tl d++[47]).isPrefixOf (tl p):=by rw [withinB,if_neg hd0,h1,h2];simp
     have HI:=prefix_iff (tl d) (tl p);rw [tl_length,tl_length] at HI;clear h1 h2 hd0;by_cases c1:d.size < p.size
     · have g1:(d.size:Int) < (p.size:Int):=by omega
       have g1':(d.size:Int)≤(p.size:Int):=by omega
       have HX:Hid ((p.extract 0 d.size).toList=(tl p).take d.size):=by show _=_;rw [toList_tl,ba_take,tl_ba]
       by_cases c2:(tl p).take d.size=tl d
       · have g2:((p.extract 0 d.size).toList == d.toList)=true:=by rw [HX.out,c2,toList_tl];simp
         have i1:=index_str p d.size c1;by_cases c3:b8 (at8 (tl p) d.size)=47
         · have HV:Hid (withinB (tl p) (tl d)=true):=by show _=_;rw [HW,HI];exact ⟨c1,c2,b8_inj c3⟩
           have g3:(b8 (at8 (tl p) d.size) == 47)=true:=by simp [c3]
           clear HW HI c2 c3;generalize at8 (tl p) d.size=x at i1 g3;go_enter Tryz.func55,Tryz.ntmps55
           go_wp2_with fail
           refine (rmay_v p true H1 _ hp).mono ?_;rintro e1 w1 ⟨rfl,hb1⟩;have B1:=hid hb1;clear hb1;go_wp2_with fail
           refine (rmay_v d true H2 _ hd).mono ?_;rintro e2 w2 ⟨rfl,hb2⟩;have B2:Hid (Below w.heap.size w w2):=B1.out.trans (hb2.mono B1.out.size);clear hb2;go_wp2;go_ret;exact ⟨ret_bool HV.out.symm,B2.out⟩
         · have HV:Hid (withinB (tl p) (tl d)=false):=by
            show _=_;rw [HW,Bool.eq_false_iff];intro h;have:=(HI.1 h).2.2;exact c3 (by rw [this];rfl)
           have g3:(b8 (at8 (tl p) d.size) == 47)=false:=by simp [c3]
           clear HW HI c2 c3;generalize at8 (tl p) d.size=x at i1 g3;go_enter Tryz.func55,Tryz.ntmps55
           go_wp2_with fail
           refine (rmay_v p true H1 _ hp).mono ?_;rintro e1 w1 ⟨rfl,hb1⟩;have B1:=hid hb1;clear hb1;go_wp2_with fail
           refine (rmay_v d true H2 _ hd).mono ?_;rintro e2 w2 ⟨rfl,hb2⟩;have B2:Hid (Below w.heap.size w w2):=B1.out.trans (hb2.mono B1.out.size);clear hb2;go_wp2;go_ret;exact ⟨ret_bool HV.out.symm,B2.out⟩
       · have g2:((p.extract 0 d.size).toList == d.toList)=false:=by rw [HX.out,toList_tl];simp [c2]
         have HV:Hid (withinB (tl p) (tl d)=false):=by
          show _=_;rw [HW,Bool.eq_false_iff];intro h;exact c2 (HI.1 h).2.1
         clear HW HI c2;go_enter Tryz.func55,Tryz.ntmps55
         go_wp2_with fail
         refine (rmay_v p true H1 _ hp).mono ?_;rintro e1 w1 ⟨rfl,hb1⟩;have B1:=hid hb1;clear hb1;go_wp2_with fail
         refine (rmay_v d true H2 _ hd).mono ?_;rintro e2 w2 ⟨rfl,hb2⟩;have B2:Hid (Below w.heap.size w w2):=B1.out.trans (hb2.mono B1.out.size);clear hb2;go_wp2;go_ret;exact ⟨ret_bool HV.out.symm,B2.out⟩
     · have g1:¬(d.size:Int) < (p.size:Int):=by omega
       have HV:Hid (withinB (tl p) (tl d)=false):=by
        show _=_;rw [HW,Bool.eq_false_iff];intro h;exact c1 (HI.1 h).1
       clear HW HI;go_enter Tryz.func55,Tryz.ntmps55
       go_wp2_with fail
       refine (rmay_v p true H1 _ hp).mono ?_;rintro e1 w1 ⟨rfl,hb1⟩;have B1:=hid hb1;clear hb1;go_wp2_with fail
       refine (rmay_v d true H2 _ hd).mono ?_;rintro e2 w2 ⟨rfl,hb2⟩;have B2:Hid (Below w.heap.size w w2):=B1.out.trans (hb2.mono B1.out.size);clear hb2;go_wp2;go_ret;exact ⟨ret_bool HV.out.symm,B2.out⟩
end Go.Proofs.YtahkcemdbfjilaaGreatDoor.Rf
namespace Go.Proofs.YtahkcemdbfjilaaGreatDoor
open Go.RowKit
theorem ret_str {a b:ByteArray} (h:a=b):Ending.returned (.string a)=.returned (.string b):=by rw [h]
theorem pieces_snoc (a b:List UInt8) (h:∀c∈b,c≠47):pieces (a++47 :: b)=pieces a++[b]:=by
 induction a with
 | nil=>rw [List.nil_append,show pieces (47 :: b)=[] :: pieces b by rw [pieces,if_pos rfl],Rf.pieces_no b h];rfl
 | cons c a ih =>
  rw [List.cons_append];by_cases hc:c=47
  · subst hc
    rw [show pieces (47 :: (a++47 :: b))=[] :: pieces (a++47 :: b) by rw [pieces,if_pos rfl],ih,show pieces (47 :: a)=[] :: pieces a by rw [pieces,if_pos rfl]];rfl
  · rw [pieces,if_neg hc,ih,pieces,if_neg hc]
    cases hp:pieces a with
    | nil=>exact absurd hp (pieces_ne a)
    | cons p ps=>rfl
theorem data_at (s:ByteArray) (j:Nat) (h:j < s.size):s.data[j]! = at8 (tl s) j:=by
 have h2:j < s.data.size:=h;have h3:j < (tl s).length:=by rw [tl_length];exact h
 rw [getElem!_pos s.data j h2];rw [at8,List.getD,List.getElem?_eq_getElem h3];rfl
theorem last_spec (s:ByteArray):(Lib.lastIndexByte s 47 = -1∧lastP (tl s)=tl s)∨∃i:Nat,i < s.size∧Lib.lastIndexByte s 47=i∧lastP (tl s)=(tl s).drop (i+1):=by
 have hno:∀(k:Nat),(∀j,k≤j→j < s.size→((s.data[j]!).toNat:Int)≠47)→∀c∈(tl s).drop k,c≠47:=by
  intro k hk c hc hc7;obtain ⟨j,hj,rfl⟩:=List.mem_iff_getElem.1 hc;rw [List.length_drop,tl_length] at hj;have:=hk (k+j) (by omega) (by omega)
  rw [data_at s (k+j) (by omega)] at this
  rw [List.getElem_drop] at hc7;apply this;have e:at8 (tl s) (k+j)=47:=by
   rw [←hc7,at8,List.getD,List.getElem?_eq_getElem (by rw [tl_length];omega)];rfl
  rw [e];rfl
 rcases Lib.lastIndexByte_spec s 47 with ⟨h,hn⟩ | ⟨i,hi,h,h7,hn⟩
 · exact .inl ⟨h,lastP_one (Rf.pieces_no _ (fun c hc=>hno 0 (fun j _ hj=>hn j hj) c (by simpa using hc)))⟩
 · refine .inr ⟨i,hi,h,?_⟩
   have hl:i < (tl s).length:=by rw [tl_length];exact hi
   have e7:(tl s)[i]=47:=by
    rw [data_at s i hi] at h7;have:at8 (tl s) i=47:=UInt8.toNat_inj.1 (by show _=47;omega)
    rw [←this,at8,List.getD,List.getElem?_eq_getElem hl];rfl
   have hs:tl s=(tl s).take i++47 :: (tl s).drop (i+1):=by
    conv=>lhs;rw [←List.take_append_drop i (tl s),List.drop_eq_getElem_cons hl,e7]
   have hp:=pieces_snoc ((tl s).take i) ((tl s).drop (i+1)) (hno (i+1) (fun j h1 h2=>hn j (by omega) h2))
   rw [←hs] at hp;exact lastP_two hp
theorem lastIdx_any (s:ByteArray) (w:World) (hs:s.size≤4000) :
 Calls Tryz.prog 125 #[.string s,.int .u8 47] w fun e w'=>e=.returned (.int .i64 (Lib.lastIndexByte s 47))∧w=w' :=
 (Tryz.strings_LastIndexByte s 47 (by omega) w).mono fun _ _ ⟨a,b⟩=>⟨a,b.symm⟩
set_option maxHeartbeats 400000 in
theorem last_any (s:ByteArray) (w:World) (hs:s.size≤4000) :
 Calls Tryz.prog 76 #[.string s] w fun e w'=>e=.returned (.string (ba (lastP (tl s))))∧w=w':=by
 have HC:=hid (fun W=>lastIdx_any s W hs)
 rcases last_spec s with ⟨h1,h2⟩ | ⟨i,hi,h1,h2⟩
 · have HV:Hid (ba (lastP (tl s))=s):=by show _=_;rw [h2,ba_tl]
   rw [h1] at HC;clear h1 h2;go_enter Tryz.func76,Tryz.ntmps76
   go_wp2_with (go_at_call 125;refine (HC.out _).mono ?_;rintro e1 w1 ⟨rfl,rfl⟩)
   go_ret;exact ⟨ret_str (by rw [HV.out]),rfl⟩
 · have HV:Hid (ba (lastP (tl s))=s.extract (i+1) s.size):=by show _=_;rw [h2,ba_drop]
   have hi2:((i+1:Nat):Int)≤(s.size:Int):=by omega
   rw [h1] at HC;clear h1 h2;go_enter Tryz.func76,Tryz.ntmps76
   go_wp2_with (go_at_call 125;refine (HC.out _).mono ?_;rintro e1 w1 ⟨rfl,rfl⟩)
   go_ret;exact ⟨ret_str (by rw [HV.out]),rfl⟩
def isTempB (l:List UInt8):Bool:=[126,116,126].isPrefixOf (lastP l)
set_option maxHeartbeats 400000 in
theorem isTemp_any (s:ByteArray) (w:World) (hs:s.size≤4000) :
 Calls Tryz.prog 33 #[.string s] w fun e w'=>e=.returned (.bool (isTempB (tl s)))∧w=w':=by
 obtain ⟨r,HR⟩:∃r,Hid (ba (lastP (tl s))=r):=⟨_,rfl⟩;have HC:Hid (∀W,Calls Tryz.prog 76 #[.string s] W fun e w'=>e=.returned (.string r)∧W=w'):=by intro W;rw [←HR.out];exact last_any s W hs
 go_enter Tryz.func33,Tryz.ntmps33
 go_wp2_with fail
 refine (HC.out _).mono ?_;rintro e1 w1 ⟨rfl,rfl⟩;go_wp2_with fail
 refine (hasPrefix_s r _ _).mono ?_;rintro e2 w2 ⟨rfl,rfl⟩;go_wp2;go_ret;exact ⟨ret_bool (by rw [isTempB,←HR.out];rfl),rfl⟩
end Go.Proofs.YtahkcemdbfjilaaGreatDoor
