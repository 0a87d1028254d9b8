/- Several texts in one. Conditions: those said at each. -/
import Derived.Test.YtahkcemdbfjilaaGreatDoorIt00
import Derived.Deep.RegionLaw
import Derived.Test.YtahkcemdbfjilaaGreatDoorIt10
set_option linter.unusedSimpArgs false
set_option linter.unusedVariables false
set_option maxRecDepth 100000
namespace Go.Proofs.YtahkcemdbfjilaaGreatDoor.Sha
open Go.RowKit
theorem step_copy_row {P:Program} {ops:Array Oper} {o:Oper} {a:Act} {w:World} {K:Act→World→Prop} {Q:Exit→Act→World→Prop} {E:Prop} (hgd:o.guard=none) (d s:Operand) (dT sT:TypeId)
 (ho:o.op=.call { callee:=.builtin .copy,args:=#[d,s],argTypes:=#[dT,sT] }) (elem:TypeId) (hu:P.underlying dT=some (.slice elem)) (hsz:(P.info? elem).map (·.size)=some 1)
 (g off dLen dCap:Nat) (ad:Addr) (sLen sCap:Nat) (hd:a.eval d=.slice (some ⟨g,off,none⟩) dLen dCap) (hs:a.eval s=.slice (some ad) sLen sCap)
 (cur:List Value) (t:TypeId) (hg:w.heap[g]? = some (.cells cur.toArray t (0,0))) (cs:List Value) (hn:cs.length=Nat.min sLen dLen)
 (hsrc:∀j v,cs[j]? = some v→w.cell? (ad.add j)=some v) (hfit:off+cs.length≤cur.length) (h1:∀v∈cs,v.oneCell'=true)
 (h:K (a.put o.dst (goInt cs.length)) (w.setRow g (splice cur off cs).toArray)) :
 if Region.wanted o (yielded ops a.tmps)=true then Oper.wp P o a w K Q else E:=by
 have hw:Region.wanted o (yielded ops a.tmps)=true:=by simp [Region.wanted,hgd]
 rw [if_pos hw];have hrun:=run_copy_row (P:=P) w dT sT o.type elem g off dLen dCap ad sLen sCap cur.toArray t cs hu hsz hg hn hsrc (by simpa using hfit) h1
 unfold Oper.wp;simp [execOp,ho,resolve,invoke,builtin,hd,hs,hrun,Result.andThen];exact h
theorem slice_part (g r:Nat) (hr:r < 64) (w:World) :
 (Instr.sliceAt 234 (.pointer (some ⟨g,9,none⟩)) (some (.int .i64 (r:Int))) none none).run Tryz.prog w=.ok (.slice (some ⟨g,9+r,none⟩) (64 - r) (64 - r)) w:=by
 have hl:Tryz.prog.arrayLen 234=64:=by kernel_rfl
 have he:Tryz.prog.elem 234=5:=by kernel_rfl
 have hs:(sizeOf (Tryz.prog.elem 234)).run Tryz.prog w=.ok 1 w:=by rw [he];kernel_rfl
 rw [run_sliceAt_array_l (P:=Tryz.prog) w 234 ⟨g,9,none⟩ (by kernel_rfl) .i64 (r:Int) (by omega) (by rw [hl];omega),hs]
 simp only [Result.andThen,slicedAt,hl,Int.toNat_natCast,Nat.mul_one];rw [if_neg (by omega)]
 have e:(⟨g,9,none⟩:Addr).add r=⟨g,9+r,none⟩:=by unfold Addr.add;split<;>simp_all
 rw [e]
theorem slice_rest (bb off len cap m:Nat) (hm:m≤len) (hc:len≤cap):∃A2,Hid (m < len→A2=some ⟨bb,off+m,none⟩) ∧
 ∀w:World,(Instr.slice 79 (.slice (some ⟨bb,off,none⟩) len cap) (some (.int .i64 (m:Int))) none none).run Tryz.prog w=.ok (.slice A2 (len - m) (cap - m)) w:=by
 have he:Tryz.prog.elem 79=5:=by kernel_rfl
 have hs:∀w,(sizeOf (Tryz.prog.elem 79)).run Tryz.prog w=.ok 1 w:=by intro w;rw [he];kernel_rfl
 refine ⟨if cap=m then some ⟨bb,off,none⟩ else some ⟨bb,off+m,none⟩,?_,?_⟩
 · intro h
   rw [if_neg (by omega)]
 · intro w
   rw [run_slice_l (P:=Tryz.prog) w 79 (some ⟨bb,off,none⟩) len cap (by kernel_rfl) .i64 (m:Int) (by omega) (by omega),hs]
   simp only [Result.andThen,sliced,Int.toNat_natCast,Nat.mul_one,Option.map_some];have e:(⟨bb,off,none⟩:Addr).add m=⟨bb,off+m,none⟩:=by unfold Addr.add;split<;>simp_all
   rw [e]
theorem range_bytes {w:World} {g:Nat} {s:SS} (h:Sta w g s) (hk:s.Ok):w.rangeAt g 9 (s.ps.map V8):=by
 intro j v hv;rw [Has.at_ h (9+j)];have hj:j < 64:=by
  rcases Nat.lt_or_ge j 64 with h | h
  · exact h
  · rw [List.getElem?_eq_none (by simp [hk.2];omega)] at hv;cases hv
 rw [cells_get_byte s hk j hj,←hv];simp [V8,at8,List.getD,List.getElem?_eq_getElem (show j < s.ps.length by rw [hk.2];exact hj)]
theorem vec8 (y:List (BitVec 32)) (h:y.length=8):vec y=#[.int .u32 (u (at32 y 0)),.int .u32 (u (at32 y 1)),.int .u32 (u (at32 y 2)),.int .u32 (u (at32 y 3)),
 .int .u32 (u (at32 y 4)),.int .u32 (u (at32 y 5)),.int .u32 (u (at32 y 6)),.int .u32 (u (at32 y 7))]:=by
 match y,h with
 | [_,_,_,_,_,_,_,_],_=>rfl
theorem list8 (y:List (BitVec 32)) (h:y.length=8):[at32 y 0,at32 y 1,at32 y 2,at32 y 3,at32 y 4,at32 y 5,at32 y 6,at32 y 7]=y:=by
 match y,h with
 | [_,_,_,_,_,_,_,_],_=>rfl
theorem foldL_len (l:List (BitVec 32)) (p:List UInt8):(foldL l p).length=8:=sums_len _ _
theorem range_words {w:World} {g:Nat} {s:SS} (h:Sta w g s) (hk:s.Ok):w.rangeAt g 1 (s.ws.map V32):=by
 intro j v hv;rw [Has.at_ h (1+j)];have hj:j < 8:=by
  rcases Nat.lt_or_ge j 8 with h | h
  · exact h
  · rw [List.getElem?_eq_none (by simp [hk.1];omega)] at hv;cases hv
 rw [cells_get_word s hk j hj,←hv];simp [V32,at32,List.getD,List.getElem?_eq_getElem (show j < s.ws.length by rw [hk.1];exact hj)]
theorem there_words {w:World} {g:Nat} {s:SS} (h:Sta w g s) (hk:s.Ok) {n:Nat} (hn:n=8):w.there g 1 n:=by
 subst hn;intro j hj;exact ⟨by rw [Has.at_ h (1+j),cells_get_word s hk j hj];rfl,Has.free h _⟩
theorem take_more (xs:List UInt8) (j m:Nat) (c:List UInt8) (h:c=(xs.drop j).take m):xs.take (j+m)=xs.take j++c:=by
 rw [h,List.take_add]
theorem i5:(Tryz.prog.info? 5).map (·.size)=some 1:=by kernel_rfl
set_option maxHeartbeats 400000 in
theorem take_any (g:Nat) (s:SS) (bb off len cap:Nat) (A:Option Addr) (xs:List UInt8) (w:World) (hok:s.Ok) (hst:Sta w g s) (hg0:g≠0) (hT:Tab w)
 (hxl:xs.length=len) (hcap:len≤cap) (hbig:s.n+len≤4611686018427387904) (hsrc:∀j,j < len→w.cell? ⟨bb,off+j,none⟩=some (.int .u8 (b8 (at8 xs j))))
 (hne:bb≠g) (hA:0 < len→A=some ⟨bb,off,none⟩) :
 Calls Tryz.prog 116 #[.pointer (some ⟨g,0,none⟩),.slice A len cap] w fun e w'=>e=.returned (.tuple #[])∧Sta w' g (feed s xs)∧Grw g w w':=by
 have H1:=hid hok;have H2:=hid hst;have H4:=hid hT;have H5:=hid hxl;have H6:=hid hsrc;have H7:=hid hA;clear hok hst hT hxl hsrc hA;go_enter Tryz.func116,Tryz.ntmps116
 go_wp2;go_loopw [1] (fun v wr=>∃(j:Nat) (A':Option Addr),j≤len∧v=.slice A' (len - j) (cap - j)∧Hid (j < len→A'=some ⟨bb,off+j,none⟩) ∧
  Hid (Sta wr g (feed s (xs.take j)))∧Hid (Grw g w wr))
  (fun v _=>match v with | .slice _ l _=>l | _=>0)
 case atStart=>exact ⟨0,A,Nat.zero_le _,rfl,H7,H2,hid (Grw.refl _ _)⟩
 case round =>
  obtain ⟨j,A',hj,rfl,HA,HS,HG⟩:=hrel;by_cases hlt:j < len
  · have hpos:(0:Int) < ((len - j:Nat):Int):=by omega
    obtain rfl:=HA.out hlt;obtain ⟨r,HR,hr⟩:∃r,Hid ((feed s (xs.take j)).n % 64=r)∧r < 64:=⟨_,rfl,by omega⟩
    obtain ⟨nn,HNN⟩:∃nn,Hid ((feed s (xs.take j)).n=nn):=⟨_,rfl⟩;have hnr:(nn:Int).tmod 64=(r:Int):=by
     rw [Int.tmod_eq_emod_of_nonneg (by omega)];have:=HR.out;have:=HNN.out;omega
    obtain ⟨c,HC,HCL⟩:∃c:List UInt8,Hid (c=(xs.drop j).take (Nat.min (len - j) (64 - r)))∧Hid (c.length=Nat.min (len - j) (64 - r)):=by
     refine ⟨_,rfl,?_⟩;show List.length _=_
     rw [List.length_take,List.length_drop,H5.out];simp only [Nat.min_def];split<;>split<;>omega
    have HOK:Hid (feed s (xs.take j)).Ok:=feed_ok _ _ H1.out;have HMN:Hid (c.length≤len - j∧c.length≤64 - r):=by
     show _∧_
     rw [HCL.out];simp only [Nat.min_def];split<;>omega
    have HSRC:Hid (∀k v,(c.map V8)[k]? = some v→wr.cell? ((⟨bb,off+j,none⟩:Addr).add k)=some v):=by
     intro k v hv;have hkc:k < c.length:=by
      rcases Nat.lt_or_ge k c.length with h | h
      · exact h
      · rw [List.getElem?_eq_none (by simpa using h)] at hv;cases hv
     have:=HMN.out;have hkl:j+k < len:=by omega
     have e1:=H6.out (j+k) hkl;have e2:wr.cell? ⟨bb,off+(j+k),none⟩=w.cell? ⟨bb,off+(j+k),none⟩ :=
      World.cell?_of_block (HG.out.block bb (block_lt_of_cell e1) (fun h=>hne (Option.some.inj h)))
     have e3:(⟨bb,off+j,none⟩:Addr).add k=⟨bb,off+(j+k),none⟩:=by unfold Addr.add;split<;>simp_all [Nat.add_assoc]
     rw [e3,e2,e1,←hv,HC.out];rw [List.getElem?_map,List.getElem?_take,if_pos (by rw [←HCL.out];exact hkc),List.getElem?_drop]
     rw [List.getElem?_eq_getElem (by rw [H5.out];exact hkl)]
     simp [V8,at8,List.getD,List.getElem?_eq_getElem (show j+k < xs.length by rw [H5.out];exact hkl)]
    have HFIT:Hid (9+r+(c.map V8).length≤(feed s (xs.take j)).cells.length):=by
     show _≤_
     rw [SS.cells_len _ HOK.out,List.length_map];have:=HMN.out;omega
    have HLN:Hid ((c.map V8).length=Nat.min (len - j) (64 - r)):=by
     show _=_
     rw [List.length_map];exact HCL.out
    have HONE:Hid (∀v∈c.map V8,v.oneCell'=true):=by
     intro v hv;obtain ⟨x,_,rfl⟩:=List.mem_map.1 hv;rfl
    have ccount:wr.cell? ⟨g,73,none⟩=some (.int .i64 (nn:Int)):=by
     have:=(Has.at_ HS.out 73).trans (cells_get_count _ HOK.out);rw [HNN.out] at this;exact this
    have hr64:(r:Int) < 64:=by omega
    have hr0:(0:Int)≤(r:Int):=by omega
    have hsl:=slice_part g r hr;go_wp2;go_region_law (refine step_copy_row (by rfl) (.tmp 16) (.tmp 17) 79 79 (by rfl) 5 Tryz.underlying79 i5 g (9+r) (64 - r) (64 - r) ⟨bb,off+j,none⟩ (len - j) (cap - j) (by rfl) (by rfl) _ 236 HS.out (c.map V8) HLN.out HSRC.out HFIT.out HONE.out ?_)
    generalize hG:World.setRow _ _ _=W1;obtain ⟨s1,HS1⟩:∃s1:SS,Hid (s1=⟨(feed s (xs.take j)).ws,splice (feed s (xs.take j)).ps r c,nn⟩):=⟨_,rfl⟩;have HOK1:Hid s1.Ok:=by
     show s1.Ok
     rw [HS1.out];have:=HMN.out;exact ⟨HOK.out.1,by show (splice _ _ _).length=64;rw [splice_len _ _ _ (by rw [HOK.out.2];omega)];exact HOK.out.2⟩
    have T1:Hid (Sta W1 g s1):=by
     rw [←hG,HS1.out,←HNN.out];show Has _ g 236 _
     rw [←cells_splice _ HOK.out r c (by have:=HMN.out;omega)]
     exact Has.row (w:=wr.drewN 1) HS.out
    have G1:Hid (Grw g w W1):=by
     rw [←hG];exact (HG.out.drawn 1).trans (Grw.of_row g (wr.drewN 1) _)
    have hn1:Hid (s1.n=nn):=by show s1.n=nn;rw [HS1.out]
    clear hG ccount;have c1:W1.cell? ⟨g,73,none⟩=some (.int .i64 (nn:Int)):=by
     have:=(Has.at_ T1.out 73).trans (cells_get_count _ HOK1.out);rw [hn1.out] at this;exact this
    have f1:W1.frozen? ⟨g,73,none⟩=false:=Has.free T1.out 73;obtain ⟨m,HM⟩:∃m,Hid (c.length=m):=⟨_,rfl⟩;rw [HM.out];have HMB:Hid (m≤len - j∧m≤64 - r∧0 < m):=by
     have h1:=HMN.out;have h2:c.length=Nat.min (len - j) (64 - r):=HCL.out;rw [HM.out] at h1 h2;refine ⟨h1.1,h1.2,?_⟩;rw [h2];simp only [Nat.min_def];split<;>omega
    obtain ⟨q,HQ⟩:∃q,Hid (nn+m=q):=⟨_,rfl⟩;have hnb:Hid (nn+m≤4611686018427387904):=by
     have h1:=HMB.out;have h2:=feed_n (xs.take j) s;rw [HNN.out,List.length_take] at h2;show _≤_
     have:=Nat.min_le_left j xs.length;omega
    have wq:IntKind.i64.wrap ((nn:Int)+(m:Int))=(q:Int):=by
     have h1:=HQ.out;have h2:=hnb.out;rw [i64in _ (by omega) (by omega)];omega
    obtain ⟨A2,HA2,hsb⟩:=slice_rest bb (off+j) (len - j) (cap - j) m HMB.out.1 (by omega)
    by_cases hq:q % 64=0
    · have q1:(q:Int).tmod 64=0:=by rw [Int.tmod_eq_emod_of_nonneg (by omega)];omega
      have q2:(q:Int) % 64=0:=by omega
      have HQ0:=hid hq;clear hq;go_wp2;generalize hG2:World.setCell W1 _ _=W2;obtain ⟨s2,HS2⟩:∃s2:SS,Hid (s2=⟨s1.ws,s1.ps,q⟩):=⟨_,rfl⟩;have HOK2:Hid s2.Ok:=by show s2.Ok;rw [HS2.out];exact HOK1.out
      have T2:Hid (Sta W2 g s2):=by
       rw [←hG2,HS2.out];show Has _ g 236 _
       rw [←cells_count _ HOK1.out];exact Has.put T1.out 73 _
      have G2:Hid (Grw g w W2):=by
       rw [←hG2];exact G1.out.trans (Grw.of_set g 73 W1 _)
      clear hG2 c1 f1;have TB:Hid (Tab W2):=fun i hi=>(World.cell?_of_block (a:=⟨0,i,none⟩) (G2.out.block 0 (Tab.pos H4.out) (fun h=>hg0 (Option.some.inj h).symm))).trans (H4.out i hi)
      have T2a:=T2.out.at_;have k0:W2.cell? ⟨g,1,none⟩=some (.int .u32 (u (at32 s2.ws 0))):=(T2a 1).trans (cells_get_word s2 HOK2.out 0 (by omega))
      have k1:W2.cell? ⟨g,2,none⟩=some (.int .u32 (u (at32 s2.ws 1))):=(T2a 2).trans (cells_get_word s2 HOK2.out 1 (by omega))
      have k2:W2.cell? ⟨g,3,none⟩=some (.int .u32 (u (at32 s2.ws 2))):=(T2a 3).trans (cells_get_word s2 HOK2.out 2 (by omega))
      have k3:W2.cell? ⟨g,4,none⟩=some (.int .u32 (u (at32 s2.ws 3))):=(T2a 4).trans (cells_get_word s2 HOK2.out 3 (by omega))
      have k4:W2.cell? ⟨g,5,none⟩=some (.int .u32 (u (at32 s2.ws 4))):=(T2a 5).trans (cells_get_word s2 HOK2.out 4 (by omega))
      have k5:W2.cell? ⟨g,6,none⟩=some (.int .u32 (u (at32 s2.ws 5))):=(T2a 6).trans (cells_get_word s2 HOK2.out 5 (by omega))
      have k6:W2.cell? ⟨g,7,none⟩=some (.int .u32 (u (at32 s2.ws 6))):=(T2a 7).trans (cells_get_word s2 HOK2.out 6 (by omega))
      have k7:W2.cell? ⟨g,8,none⟩=some (.int .u32 (u (at32 s2.ws 7))):=(T2a 8).trans (cells_get_word s2 HOK2.out 7 (by omega))
      clear T2a;have k8:W2.rangeAt g 9 (s2.ps.map V8):=range_bytes T2.out HOK2.out;have TBd:Hid (Tab W2.drew):=TB;have T2d:Hid (Sta W2.drew g s2):=T2;have k8d:W2.drew.rangeAt g 9 (s2.ps.map V8):=k8;refine wp_region_noPanic ?_;refine wp_region_held_drew (S:=fun w'=>w'.rangeAt g 9 (s2.ps.map V8)) (by kernel_rfl) k8d (fun hS=>?_)
      refine inI 0 ?_
      iterate 4
       refine stI (v:=?_) (by simp only [lkA,lkB,lkC];rfl) (by kernel_rfl) (fun _ _ _ h=>h) (by rfl) (by assumption) ?_ ?_
       rotate_left 1
       · intro w hSw
         (try dsimp only at hSw)
         go_simp
         with_reducible rfl
       simp only [Act.put,siA,siB,siC,Nat.reduceAdd]
      refine outI ?_;refine inI 5 ?_
      iterate 3
       refine stI (v:=?_) (by simp only [lkA,lkB,lkC];rfl) (by kernel_rfl) (fun _ _ _ h=>h) (by rfl) (by assumption) ?_ ?_
       rotate_left 1
       · intro w hSw
         (try dsimp only at hSw)
         go_simp
         with_reducible rfl
       simp only [Act.put,siA,siB,siC,Nat.reduceAdd]
      refine outI ?_;refine' wpAnyH_take (i:=8) (v:=_) (by simp only [lkA,lkB,lkC];rfl) (by kernel_rfl) (by kernel_rfl) (by kernel_rfl) (fun _ _ _ h=>h)
       (yieldsIf_load_mid (by rfl) _ _ rfl _ _ rfl (s2.ps.map V8) _ (fun w hSw=>hSw) Tryz.underlying234 rfl (by rw [List.length_map,HOK2.out.2];exact i35)) (by assumption) ?_
      simp only [Act.put,siA,siB,siC];refine wpAnyH_ready (rs:=[4]) (by kernel_rfl) (by simp) ?_
      refine AllReadyH.cons (by simp only [lkA,lkB,lkC];rfl) (fun K hK=>?_) AllReadyH.nil
      rw [if_pos (by rfl)]
      refine wp_load_mid 232 _ rfl g 1 rfl (s2.ws.map V32) _ (range_words T2d.out HOK2.out) Tryz.underlying232 rfl (by rw [List.length_map,HOK2.out.1];exact i34) ?_
      rw [show (s2.ws.map V32).toArray=_ from vec8 s2.ws HOK2.out.1]
      simp only [Act.put,siA,siB,siC];refine hK.out _ _ k8d (fun hS=>?_)
      clear hK K;refine wpAnyH_ready (rs:=[9]) (by kernel_rfl) (by simp) ?_
      refine AllReadyH.cons (by simp only [lkA,lkB,lkC];rfl) (fun K hK=>?_) AllReadyH.nil
      go_simp;refine (fold_any _ _ _ _ _ _ _ _ s2.ps HOK2.out.2 _ TBd.out).mono ?_;rintro e2 w3 ⟨rfl,hb3⟩;have T3:Hid (Sta w3 g s2):=Has.kept T2d.out hb3 (Has.inside T2d.out);have G3:Hid (Grw g w w3):=(show Grw g w W2.drew from G2.out.drawn 1).trans (Grw.of_below hb3)
      have n8:w3.rangeAt g 9 (s2.ps.map V8):=range_bytes T3.out HOK2.out;clear hb3;obtain ⟨y,HY⟩:∃y,Hid (foldL s2.ws s2.ps=y):=⟨_,rfl⟩;have HYL:Hid (y.length=8):=by show y.length=8;rw [←HY.out];exact foldL_len _ _
      rw [list8 s2.ws HOK2.out.1,HY.out];refine hK.out _ _ n8 (fun hS=>?_)
      clear hK K;refine inI 10 ?_
      iterate 2
       refine stI (v:=?_) (by simp only [lkA,lkB,lkC];rfl) (by kernel_rfl) (fun _ _ _ h=>h) (by rfl) (by assumption) ?_ ?_
       rotate_left 1
       · intro w hSw
         (try dsimp only at hSw)
         go_simp
         with_reducible rfl
       simp only [Act.put,siA,siB,siC,Nat.reduceAdd]
      refine outI ?_;refine wpAnyH_ready (rs:=[12]) (by kernel_rfl) (by simp) ?_
      refine AllReadyH.cons (by simp only [lkA,lkB,lkC];rfl) (fun K hK=>?_) AllReadyH.nil
      rw [if_pos (by rfl)]
      refine wp_store_mid 232 _ _ rfl g 1 (vec y) rfl rfl (there_words T3.out HOK2.out (by rw [vec_size,HYL.out])) (by rw [vec_size,HYL.out];exact i34) (vec_one _) ?_
      have T4:Hid (Sta (w3.setCells g 1 (vec y).toList) g ⟨y,s2.ps,s2.n⟩):=by
       show Has _ g 236 _
       rw [←cells_words s2 HOK2.out y HYL.out];exact Has.sets (y.map V32) 1 w3 s2.cells T3.out (by rw [List.length_map,HYL.out,SS.cells_len _ HOK2.out];omega)
      have G4:Hid (Grw g w (w3.setCells g 1 (vec y).toList)):=G3.out.trans (Grw.of_sets g _ 1 w3);have m8:(w3.setCells g 1 (vec y).toList).rangeAt g 9 (s2.ps.map V8):=range_bytes (s:=⟨y,s2.ps,s2.n⟩) T4.out ⟨HYL.out,HOK2.out.2⟩;simp only [Act.put];refine hK.out _ _ m8 (fun hS=>?_)
      clear hK K;refine wpAnyH_done (by kernel_rfl) ?_ _
      refine NoPanic.normal ?_;generalize World.setCells w3 g 1 (vec y).toList=W4 at T4 G4;clear n8 m8 hS k8 k8d;go_wp2;go_roundw
      case rel =>
       refine ⟨j+m,A2,by have:=HMB.out;omega,by rw [Nat.sub_sub,Nat.sub_sub],fun h=>?_,?_,G4⟩
       · have:=HA2.out (by omega)
         rw [this,Nat.add_assoc]
       · have E:feed s (xs.take (j+m))=⟨y,s2.ps,s2.n⟩:=by
          have hm:=HM.out;have hb:=HMB.out;have hr1:=HR.out;have hn1:=HNN.out;have hq1:=HQ.out;have hq0:=HQ0.out;rw [take_more xs j m c (by rw [HC.out,←HCL.out,hm]),feed_append,feed_full c _ HOK.out.2 (by omega) (by omega),hr1,hn1,←HY.out,HS2.out,HS1.out,hm,hq1]
         rw [E];exact T4
      case measure=>show len - j - m < len - j;have:=HMB.out;omega
    · obtain ⟨t,HQ0,ht⟩:∃t,Hid (q % 64=t)∧t≠0:=⟨_,rfl,hq⟩
      have q1:(q:Int).tmod 64=(t:Int):=by rw [Int.tmod_eq_emod_of_nonneg (by omega)];have:=HQ0.out;omega
      have q2:(q:Int) % 64=(t:Int):=by have:=HQ0.out;omega
      have q3:((t:Int) == 0)=false:=by simp;exact ht
      have q4:decide ((t:Int)=0)=false:=by simp;exact ht
      clear hq;go_wp2;have T2:Hid (Sta (W1.setCell ⟨g,73,none⟩ (.int .i64 (q:Int))) g ⟨s1.ws,s1.ps,q⟩):=by
       show Has _ g 236 _
       rw [←cells_count _ HOK1.out];exact Has.put T1.out 73 _
      have G2:Hid (Grw g w (W1.setCell ⟨g,73,none⟩ (.int .i64 (q:Int)))):=G1.out.trans (Grw.of_set g 73 W1 _);go_roundw
      case rel =>
       refine ⟨j+m,A2,by have:=HMB.out;omega,by rw [Nat.sub_sub,Nat.sub_sub],fun h=>?_,?_,G2⟩
       · have:=HA2.out (by omega)
         rw [this,Nat.add_assoc]
       · have E:feed s (xs.take (j+m))=⟨s1.ws,s1.ps,q⟩:=by
          have hm:=HM.out;have hb:=HMB.out;have hr1:=HR.out;have hn1:=HNN.out;have hq1:=HQ.out;have hq0:=HQ0.out;rw [take_more xs j m c (by rw [HC.out,←HCL.out,hm]),feed_append,feed_part c _ HOK.out.2 (by omega) (by omega),hr1,hn1,HS1.out,hm,hq1]
         rw [E];exact T2
      case measure=>show len - j - m < len - j;have:=HMB.out;omega
  · obtain rfl:j=len:=by omega
    rw [Nat.sub_self];go_wp2;go_end0
    refine ⟨rfl,?_,HG.out⟩;have:=HS.out;rw [List.take_of_length_le (by rw [H5.out];omega)] at this
    exact this
end Go.Proofs.YtahkcemdbfjilaaGreatDoor.Sha
namespace Go.Proofs.YtahkcemdbfjilaaGreatDoor.Sha
open Go.RowKit
def lenByte (n j:Nat):UInt8:=UInt8.ofNat (n*8 / 2 ^ (56 - 8*j))
def lenBytes (n j:Nat):List UInt8:=(List.range j).map (lenByte n)
def padHead (n:Nat):List UInt8:=128 :: List.replicate ((119 - n % 64) % 64) 0
def padL (n:Nat):List UInt8:=padHead n++lenBytes n 8
theorem lenBytes_next (n j:Nat):lenBytes n (j+1)=lenBytes n j++[lenByte n j]:=by simp [lenBytes,List.range_succ]
theorem b8_ofNat (m:Nat):b8 (UInt8.ofNat m)=((m % 256:Nat):Int):=by simp [b8]
theorem info5:(Tryz.prog.info? 5).map (fun i=>(i.zero,i.size,i.bytes))=some (some (.int .u8 0),1,1):=by kernel_rfl
theorem made_bytes (m:Nat):madeCells #[Value.int .u8 0] m=bvec (List.replicate m 0):=by
 apply Array.ext
 · simp [madeCells,bvec]
 · intro i h1 h2
   simp [madeCells,bvec,Nat.mod_one];rfl
set_option maxHeartbeats 400000 in
theorem padding_any (n:Nat) (hn:n≤1099511627776) (w:World) :
 Calls Tryz.prog 171 #[.int .i64 (n:Int)] w fun e w'=>∃v,e=.returned v∧w'.ownsRow w.heap.size 5 1 v (padL n).length ((padL n).map V8)∧Below w.heap.size w w':=by
 obtain ⟨i0,hi,hz0,hz1,hz2⟩:=info_parts info5;obtain ⟨r,r1,r2,HR⟩:∃r:Nat,(n:Int).tmod 64=(r:Int)∧(n:Int) % 64=(r:Int)∧Hid (n % 64=r∧r < 64) :=
  ⟨n % 64,by rw [Int.tmod_eq_emod_of_nonneg (by omega)];omega,by omega,rfl,by omega⟩
 obtain ⟨k,k1,k2,HK⟩:∃k:Nat,(119 - (r:Int)).tmod 64=(k:Int)∧(119 - (r:Int)) % 64=(k:Int)∧Hid ((119 - n % 64) % 64=k∧k < 64):=by
  have:=HR.out;exact ⟨(119 - n % 64) % 64,by rw [Int.tmod_eq_emod_of_nonneg (by omega)];omega,by omega,rfl,by omega⟩
 obtain ⟨a,a1,HA⟩:∃a:Nat,1+(k:Int)=(a:Int)∧Hid (1+k=a):=⟨1+k,by omega,rfl⟩
 obtain ⟨c,c1,HC⟩:∃c:Nat,(a:Int)+8=(c:Int)∧Hid (a+8=c):=⟨a+8,by omega,rfl⟩
 have hr0:(0:Int)≤(r:Int):=by omega
 have hr64:(r:Int) < 64:=by have:=HR.out;omega
 have hk64:(k:Int) < 64:=by have:=HK.out;omega
 have ha66:(a:Int) < 66:=by omega
 have ha0:(0:Int) < (a:Int):=by omega
 have hmk:∀w:World,(Instr.makeSlice 79 (.int .i64 (a:Int)) (.int .i64 (c:Int))).run Tryz.prog w=.ok (.slice (some ⟨w.heap.size,0,none⟩) a c) (w.alloc (.cells (bvec (List.replicate c 0)) 5)):=by
  intro w;have:=run_make (P:=Tryz.prog) w 79 5 i0 (.int .u8 0) Tryz.underlying79 hi hz0 .i64 .i64 (a:Int) (c:Int) (by omega) (by omega) (by rw [hz2];omega) (by omega)
  rw [this];simp only [Int.toNat_natCast,hz1,Nat.mul_one];rw [show (Value.int IntKind.u8 0).cells=#[Value.int .u8 0] from rfl,made_bytes]
 have hc0:(bvec (List.replicate c 0))[0]? = some (Value.int .u8 (b8 (at8 (List.replicate c 0) 0))):=bvec_get _ 0 (by rw [List.length_replicate];have:=HC.out;omega)
 go_enter Tryz.func171,Tryz.ntmps171
 go_wp2;go_loopw [4,5] (fun v i wr=>∃(j:Nat) (q:Int),j≤8∧i=.int .i64 q∧Hid (q=56 - 8*(j:Int))∧Hid (wr.ownsRow w.heap.size 5 1 v (a+j) ((padHead n++lenBytes n j).map V8))∧Hid (Below w.heap.size w wr))
  (fun _ i _=>(intOf i+8).toNat)
 case atStart =>
  refine ⟨0,56,by omega,rfl,rfl,?_,?_⟩
  · have e1:(padHead n).length=a:=by have h1:=HK.out;have h2:=HA.out;simp [padHead];omega
    refine ⟨by simp [lenBytes,e1],.inr ⟨w.heap.size,c,(bvec (List.replicate c 0)).setIfInBounds 0 (.int .u8 (b8 128)),rfl,Nat.le_refl _,heap_alloc_new w _,by have:=HC.out;omega,by have:=HC.out;unfold maxLen;omega,by simp [bvec],?_⟩⟩
    rw [bvec_set,bvec];show List.take _ (List.map _ _)=_
    rw [←List.map_take];have h1:=HK.out;have h2:=HA.out;have h3:=HC.out;have e2:((List.replicate c (0:UInt8)).set 0 128).take ((a+0)*1)=padHead n++lenBytes n 0:=by
     obtain ⟨c',rfl⟩:∃c',c=c'+1:=⟨c - 1,by omega⟩
     rw [List.replicate_succ,List.set_cons_zero];obtain ⟨a',rfl⟩:∃a',a=a'+1:=⟨a - 1,by omega⟩
     simp [padHead,lenBytes,List.take_replicate];omega
    rw [e2];rfl
  · exact (Below.refl _ _).alloc (Nat.le_refl _) _
 case round =>
  obtain ⟨j,q,hj,rfl,HQ,HO,HB⟩:=hrel;by_cases hlt:j < 8
  · obtain ⟨sh,rfl⟩:∃sh:Nat,q=(sh:Int):=⟨56 - 8*j,by have:=HQ.out;omega⟩
    have hsh:(0:Int)≤(sh:Int):=by omega
    have hsh2:(sh:Int)≤56:=by have:=HQ.out;omega
    have N1:Hid (∀u∈[Value.int .u8 ((n:Int)*8 / 2 ^ sh % 256)],u.oneCell'=true):=by
     intro u hu;rw [List.mem_singleton] at hu;subst hu;rfl
    have N2:Hid (a+j+1≤maxLen):=by show _≤_;unfold maxLen;omega
    have N3:Hid ((a+j+1)*1≤140737488355328):=by show _≤_;omega
    have N4:Hid (∀o,w.heap.size≤(wr.alloc o).heap.size):=by intro o;have:=HB.out.size;simp;omega
    have N5:Hid (Value.int .u8 ((n:Int)*8 / 2 ^ sh % 256)=V8 (lenByte n j)):=by
     have e:sh=56 - 8*j:=by have:=HQ.out;omega
     show Value.int _ _=Value.int _ _
     rw [lenByte,b8_ofNat,e];norm_cast
    go_wp2_with (at_builtin;refine wpList_append_own _ rfl _ _ 79 rfl w.heap.size 5 i0 (.int .u8 0) 1 1 Tryz.underlying79 hi hz0 hz1 hz2 rfl (by omega) _ _ _ rfl (HO.out.alloc _) ⟨wr.heap.size,0,none⟩ 1 1 [Value.int .u8 ((n:Int)*8 / 2 ^ sh % 256)] rfl rfl (cell_one_new _ _ _) N1.out N2.out N3.out (N4.out _) ?_;intro v' w1 hown' hgrow _)
    have HO2:Hid (w1.ownsRow w.heap.size 5 1 v' (a+(j+1)) ((padHead n++lenBytes n (j+1)).map V8)):=by
     rw [N5.out] at hown';rw [lenBytes_next,←List.append_assoc,List.map_append];exact hown'
    have HB2:Hid (Below w.heap.size w w1) :=
     ((HB.out.alloc HB.out.size _).grown hgrow (N4.out _) (fun g hg=>by
       rcases HO.out.2 with ⟨rfl,_⟩ | ⟨g',_,_,rfl,hle,_⟩
       · cases hg
       · obtain rfl:=Option.some.inj hg;exact hle))
    clear hown' hgrow;go_wp2;go_roundw
    case rel=>exact ⟨j+1,(sh:Int) - 8,by omega,rfl,by show _=_;have:=HQ.out;omega,HO2,HB2⟩
    case measure=>simp [intOf];omega
  · obtain rfl:j=8:=by omega
    have hq:q < 0:=by have:=HQ.out;omega
    go_wp2;go_ret;refine ⟨_,rfl,?_,HB.out⟩;have e1:(padL n).length=a+8:=by have h1:=HK.out;have h2:=HA.out;simp [padL,padHead,lenBytes];omega
    rw [e1];exact HO.out
end Go.Proofs.YtahkcemdbfjilaaGreatDoor.Sha
namespace Go.Proofs.YtahkcemdbfjilaaGreatDoor.Sha
open Go.RowKit
def hList:List (BitVec 32):=[0x6a09e667,0xbb67ae85,0x3c6ef372,0xa54ff53a,0x510e527f,0x9b05688c,0x1f83d9ab,0x5be0cd19]
def h0Arr:Array Value:=#[.int .u32 1779033703,.int .u32 3144134277,.int .u32 1013904242,.int .u32 2773480762,.int .u32 1359893119,.int .u32 2600822924,.int .u32 528734635,.int .u32 1541459225]
def newS:SS:=⟨hList,List.replicate 64 0,0⟩
theorem newS_ok:newS.Ok:=⟨rfl,rfl⟩
set_option maxHeartbeats 400000 in
theorem fw_any (w:World):Calls Tryz.prog 169 #[] w fun e w'=>e=.returned (.agg h0Arr)∧Below w.heap.size w w':=by
 go_enter Tryz.func169,Tryz.ntmps169
 go_wp2;refine bodyPost_ret (results_cell_row rfl _ _ w.heap.size 232 h0Arr (0,0) _ rfl (heap_alloc_new w _) Tryz.underlying232 rfl i34) rfl ⟨rfl,?_⟩;exact (Below.refl _ _).alloc (Nat.le_refl _) _
set_option maxHeartbeats 400000 in
theorem new_any (w:World):Calls Tryz.prog 115 #[] w fun e w'=>∃g,w.heap.size≤g∧e=.returned (.pointer (some ⟨g,0,none⟩))∧Sta w' g newS∧Below w.heap.size w w':=by
 go_enter Tryz.func115,Tryz.ntmps115
 go_wp2_with (first
  | (go_at_call 169;refine (fw_any _).mono ?_;rintro e1 w1 ⟨rfl,hb1⟩)
  | (refine wpList_build rfl 236 _ rfl (by kernel_rfl) ?_))
 have hB:(Tryz.prog.built 236 [(0,Value.bool true),(1,Value.agg h0Arr)]).getD #[]=newS.cells.toArray:=by kernel_rfl
 go_ret;refine ⟨w1.heap.size,hb1.size,rfl,?_,hb1.alloc hb1.size _⟩;show Has _ _ 236 _
 rw [hB];exact Has.fresh w1 236 _
end Go.Proofs.YtahkcemdbfjilaaGreatDoor.Sha
