/- Several texts in one. Conditions: those said at each. -/
import Derived.Test.YtahkcemdbfjilaaGreatDoorIt00
import Derived.Deep.CutRange
import Derived.Test.YtahkcemdbfjilaaGreatDoorIt43
import Derived.Test.YtahkcemdbfjilaaGreatDoorIt45
set_option linter.unusedSimpArgs false
set_option linter.unusedVariables false
set_option maxRecDepth 100000
namespace Go.Proofs.YtahkcemdbfjilaaGreatDoor
open Go.RowKit Go.Maps
attribute [local go_sem] Oper.semAt_some
theorem results_bi {fn:Func} {c:Nat} (h:fn.results=#[.cell c 4]) (tmps:Array Value) (w:World) (g:Nat) (b:Bool) (hc:tmps.getD c undef=.pointer (some ⟨g,0,none⟩)) (hg:w.cell? ⟨g,0,none⟩=some (.bool b)) :
 (results fn tmps).run Tryz.prog w=.ok (.bool b) w:=by
 have hp':tmps[c]?.getD undef=.pointer (some ⟨g,0,none⟩):=by simpa using hc
 have hl:(loadVar 4 ⟨g,0,none⟩).run Tryz.prog w=.ok (.bool b) w:=by go_simp
 simp [results,h,hp',asAddr,hl]
theorem no_files (w:World):Glob.FilesAt w none 0 0 0 []:=⟨rfl,fun h=>absurd h (by simp),fun i hi=>absurd hi (by simp),fun i hi=>absurd hi (by simp)⟩
theorem cap_row {w:World} {A:Option Addr} {n c:Nat} {L:Tr} (h:TRow 0 w (.slice A n c) L):n≤c:=by
 rcases h.2 with ⟨h1,_⟩ | ⟨g,c',cur,h1,_,_,h4,_⟩
 · injection h1 with _ a b;omega
 · injection h1 with _ a b;omega
theorem in_bad {room:Nat} {L:Tr} (h:WFT room L) (root:By) (hr:rootE L root≠0):inL L root=[]:=by
 unfold rootE at hr;by_cases hm:mayB root=true
 · rw [if_pos hm] at hr
   exact in_none h root (fun hk=>hr (by unfold noDirE;rw [if_pos hk]))
 · apply List.eq_nil_iff_forall_not_mem.2
   intro x hx;have h2:=mem_look h.srt (mem_in.1 hx);exact hm (may_front (h.may (root++47 :: x.1) (by rw [h2];rfl)))
theorem item_has {L:Tr} (root q:By) (h0:(itemM L root q).1=0):(hasN (itemM L root q).2).length≤100000:=by
 unfold itemM at h0 ⊢;by_cases hm:mayB (root++47 :: q)=true
 · rw [if_pos hm] at h0 ⊢
   cases hl:look L (root++47 :: q) with
   | none=>rw [hl] at h0;exact absurd h0 (by decide)
   | some n =>
    rw [hl] at h0;by_cases hb:badN n=true
    · simp [hb] at h0
    · simp only [hb]
      show (hasN n).length≤100000
      have hd:n.data.length≤4096:=by unfold badN at hb;simp at hb;omega
      unfold hasN;split
      · rw [hashes_len]
        unfold cntL;have hs:=szL_cases n.data.length;exact Nat.le_trans (Nat.div_le_self _ _) (by omega)
      · simp
 · rw [if_neg hm] at h0
   exact absurd h0 (by decide)
theorem pre_next {l:Tr} {pre:List (InX l)} {x:InX l} (h:plainX (pre++[x]) <+: l):x.1=l.getD pre.length at0:=by
 rw [plainX_snoc] at h;obtain ⟨t,ht⟩:=h;have hp:(plainX pre).length=pre.length:=plainX_len pre;have e:(plainX pre++[x.1]++t).getD pre.length at0=x.1:=by
  rw [List.getD_eq_getElem?_getD,List.append_assoc,List.getElem?_append_right (by omega),hp,Nat.sub_self]
  rfl
 exact e.symm.trans (congrArg (fun z=>z.getD pre.length at0) ht)
theorem pre_more {l:Tr} {pre:List (InX l)} {x:InX l} (h:plainX pre <+: l) (hk:pre.length < l.length) (e:x.1=l.getD pre.length at0):plainX (pre++[x]) <+: l:=by
 have hp:(plainX pre).length=pre.length:=plainX_len pre;have h1:=List.prefix_iff_eq_take.1 h;rw [hp] at h1;rw [plainX_snoc,h1,e,List.getD_eq_getElem?_getD,List.getElem?_eq_getElem hk,Option.getD_some,←List.take_succ_eq_append_getElem hk];exact List.take_prefix _ _
theorem yields_neq_n {ops:Array Oper} {S:World→Prop} {o:Oper} {a:Act} (hw:Region.wanted o (yielded ops a.tmps)=true) (x y:Operand) (ho:o.op=.binOp .neq 71 x y 71) (n m:Nd) (hx:a.eval x=nodeV n) (hy:a.eval y=nodeV m) (b:Bool) (hb:(!decide (n=m))=b):YieldsIf Tryz.prog ops S o (.bool b) a :=
 .inl ⟨hw,fun w _=>by
  unfold execOp;have e:=neqNode_any n m w;have g:(eqGuard .neq 71 x y (nodeV n) (nodeV m)).run Tryz.prog w=.ok () w:=run_eqGuard_agg w .neq 71 x y _ _ eqG;simp only [ho,hx,hy,Sem.run_bind,g,e,Result.andThen_ok,hb,Sem.run_pure]⟩
set_option maxHeartbeats 32000000 in
theorem items_law {A:Option Addr} {n cap bb off:Nat} {xs:List PutT} (w:World) (hI:PutsIn w A n bb off xs) (hn:n≤maxLen) (hG:Gd w) (hT:Sha.Tab w) (root q:By) (hrl:root.length≤140737488355328) (hql:q.length≤140737488355328) (st:Int) :
 Calls Tryz.prog 4 #[.slice A n cap,kS root,kS q,.int .i64 st] w fun e w'=>e=.returned (.bool true)∧Below w.heap.size w w':=by
 obtain ⟨w0,hw0⟩:∃w0,(w.alloc (.cells #[.int .i64 st] 3)).alloc (.cells #[.bool false] 4)=w0:=⟨_,rfl⟩;have b0:Below w.heap.size w w0:=hw0▸((Below.refl _ _).alloc (Nat.le_refl _) _).alloc (by simp) _
 have I0:Hid (Has w0 w.heap.size 3 #[.int .i64 st]):=by rw [←hw0];exact (Has.fresh w _ _).more _
 have R0:Hid (Has w0 (w.heap.size+1) 4 #[.bool false]):=by rw [←hw0];exact Has.fresh' _ _ _ (by simp)
 have B0:=hid b0;have CL:=hid (large_any (cap:=cap) (cap2:=0) w0 (hI.on b0) (no_files w0) (fun f hf=>by cases hf) hn (by unfold maxLen;omega))
 have HI:=hid hI;have HG:=hid hG;have HT:=hid hT;have GW:Hid (∀W,Below w.heap.size w W→Gd W∧Sha.Tab W):=fun W hb=>⟨HG.out.kept hb,HT.out.kept hb HG.out.pos⟩
 have CA:Hid (∀W,Below w.heap.size w W→Calls Tryz.prog 9 #[] W fun e w'=>e=.returned (.bool true)∧Below W.heap.size W w'):=fun W hb=>awake_any W (HG.out.kept hb) (HT.out.kept hb HG.out.pos)
 have HE:Hid (∀W:World,Below w.heap.size w W→Has W (w.heap.size+1) 4 #[.bool false]→Below w.heap.size w (W.setCell ⟨w.heap.size+1,0,none⟩ (.bool true))∧(W.setCell ⟨w.heap.size+1,0,none⟩ (.bool true)).cell? ⟨w.heap.size+1,0,none⟩=some (.bool true)):=fun W hb hr =>
  ⟨hb.setCell (p:=⟨w.heap.size+1,0,none⟩) (by show _≤w.heap.size+1;omega) _,(hr.put 0 (.bool true)).at_ 0⟩
 have zr:(ba root).size=root.length:=ba_size root;have zq:(ba q).size=q.length:=ba_size q;have wl:IntKind.i64.wrap ((root.length:Int)+(q.length:Int))=(root.length:Int)+(q.length:Int):=i64in _ (by omega) (by omega)
 obtain ⟨lg,HL⟩:∃b,Hid (largeB xs []=b):=⟨_,rfl⟩;rw [HL.out] at CL;clear hI hG hT b0;refine (callsIn_wide (n:=9)).1 ?_;refine callsIn_of_wp_marks Tryz.func4 rfl trivial ?_ rfl;simp only [Tryz.ntmps4,List.size_toArray,List.length_cons,List.length_nil,Nat.reduceAdd,Nat.reduceSub,Array.replicate_succ,Array.replicate_zero,List.push_toArray,List.append_toArray,List.nil_append,List.cons_append];refine wpIn_wide.2 ?_;go_wp2_with fail
 try rw [hw0]
 refine CL.out.mono ?_;rintro e1 w1 ⟨rfl,hb1⟩;have B1:Hid (Below w.heap.size w w1):=B0.out.trans (hb1.mono B0.out.size);have R1:Hid (Has w1 (w.heap.size+1) 4 #[.bool false]):=R0.out.kept hb1 R0.out.inside;have I1:Hid (Has w1 w.heap.size 3 #[.int .i64 st]):=I0.out.kept hb1 I0.out.inside;clear hb1 hw0
 cases lg with
 | true =>
  go_wp2_with fail
  refine (CA.out _ B1.out).mono ?_;rintro e2 w2 ⟨rfl,hb2⟩;have R2:=R1.out.kept hb2 R1.out.inside;have c0:=R2.at_ 0;have c1:=R2.free 0;go_wp2;exact ⟨_,results_bi rfl _ _ (w.heap.size+1) true rfl (HE.out w2 (B1.out.trans (hb2.mono B1.out.size)) R2).2,rfl,(HE.out w2 (B1.out.trans (hb2.mono B1.out.size)) R2).1⟩
 | false =>
  by_cases h4:400 < root.length+q.length
  · have g4:(400:Int) < (root.length:Int)+(q.length:Int):=by omega
    go_wp2_with fail
    refine (CA.out _ B1.out).mono ?_;rintro e2 w2 ⟨rfl,hb2⟩;have R2:=R1.out.kept hb2 R1.out.inside;have c0:=R2.at_ 0;have c1:=R2.free 0;go_wp2;exact ⟨_,results_bi rfl _ _ (w.heap.size+1) true rfl (HE.out w2 (B1.out.trans (hb2.mono B1.out.size)) R2).2,rfl,(HE.out w2 (B1.out.trans (hb2.mono B1.out.size)) R2).1⟩
  · have g4:¬(400:Int) < (root.length:Int)+(q.length:Int):=by omega
    obtain ⟨hx1,hx2,hx3,_⟩:=large_false HL.out;have CM:=hid (made_any (cap:=cap) w1 (HI.out.on B1.out) (HG.out.kept B1.out) (by have:=HI.out.len;omega) hx3)
    have HDG:=hid (DG.made xs);obtain ⟨M,HM⟩:∃M,Hid (madeM xs=M):=⟨_,rfl⟩;rw [HM.out] at CM HDG;clear hx1 hx2 hx3;go_wp2_with fail
    refine CM.out.mono ?_;rintro e2 w2 ⟨p,q0,rfl,hl2⟩;have R2:Hid (Has w2 (w.heap.size+1) 4 #[.bool false]):=R1.out.kept hl2.bl R1.out.inside;have I2:Hid (Has w2 w.heap.size 3 #[.int .i64 st]):=I1.out.kept hl2.bl I1.out.inside;have L2:=hid (hl2.ahead B1.out);clear hl2;obtain ⟨own,hD2⟩:=L2.out.headD;have CI:=hid (item_any hD2 (GW.out _ L2.out.bl).1 (GW.out _ L2.out.bl).2 root q (by omega) (by omega))
    obtain ⟨v,HV⟩:∃v,Hid (itemM M.now root q=v):=⟨_,rfl⟩;rw [HV.out] at CI;clear hD2;go_wp2_with fail
    refine CI.out.mono ?_;rintro e3 w3 ⟨cs,rfl,hz1,hz2,hz3,hz4,hb3⟩;have L3:=hid (L2.out.on hb3);have R3:Hid (Has w3 (w.heap.size+1) 4 #[.bool false]):=R2.out.kept hb3 R2.out.inside;have I3:Hid (Has w3 w.heap.size 3 #[.int .i64 st]):=I2.out.kept hb3 I2.out.inside;have HZ1:=hid hz1;have HZ2:=hid hz2;have HZ3:=hid hz3;have HZ4:=hid hz4;clear hz1 hz2 hz3 hz4 hb3;obtain ⟨w4,hw4⟩:∃V,(w3.alloc (.cells #[.string ⟨#[]⟩,.int .i64 0,.bool false,.int .i64 0,.int .i64 0,.int .i64 0,.int .u32 0,.int .u32 0,.int .u32 0,.int .u32 0,.int .u32 0,.int .u32 0,.int .u32 0,.int .u32 0,.int .u32 0,.int .u32 0,.int .u32 0,.int .u32 0,.int .u32 0,.int .u32 0,.int .u32 0,.int .u32 0,.int .i64 0,.slice none 0 0,.string ⟨#[]⟩,.int .i64 0,.int .i64 0] 58)).setRow w3.heap.size cs=V:=⟨_,rfl⟩;have X3:Hid (Has (w3.alloc (.cells #[.string ⟨#[]⟩,.int .i64 0,.bool false,.int .i64 0,.int .i64 0,.int .i64 0,.int .u32 0,.int .u32 0,.int .u32 0,.int .u32 0,.int .u32 0,.int .u32 0,.int .u32 0,.int .u32 0,.int .u32 0,.int .u32 0,.int .u32 0,.int .u32 0,.int .u32 0,.int .u32 0,.int .u32 0,.int .u32 0,.int .i64 0,.slice none 0 0,.string ⟨#[]⟩,.int .i64 0,.int .i64 0] 58)) w3.heap.size 58 #[.string ⟨#[]⟩,.int .i64 0,.bool false,.int .i64 0,.int .i64 0,.int .i64 0,.int .u32 0,.int .u32 0,.int .u32 0,.int .u32 0,.int .u32 0,.int .u32 0,.int .u32 0,.int .u32 0,.int .u32 0,.int .u32 0,.int .u32 0,.int .u32 0,.int .u32 0,.int .u32 0,.int .u32 0,.int .u32 0,.int .i64 0,.slice none 0 0,.string ⟨#[]⟩,.int .i64 0,.int .i64 0]):=Has.fresh _ _ _;have b4:Below w3.heap.size w3 w4:=hw4▸((Below.refl _ _).alloc (Nat.le_refl _) _).rowK (Nat.le_refl _) _;have X4:Hid (Has w4 w3.heap.size 58 cs):=by rw [←hw4];exact X3.out.row
    have L4:=hid (L3.out.on b4);have R4:Hid (Has w4 (w.heap.size+1) 4 #[.bool false]):=R3.out.kept b4 R3.out.inside;have I4:Hid (Has w4 w.heap.size 3 #[.int .i64 st]):=I3.out.kept b4 I3.out.inside;obtain ⟨own4,hR4,_⟩:=L4.out.swap.headR;have HLN:Hid (v.1=0→(hasN v.2).length≤100000):=fun h0=>by
     rw [←HV.out] at h0 ⊢;exact item_has root q h0
    have CO:=hid (rone_any hR4 HDG.out (Nat.lt_of_lt_of_le HG.out.pos L4.out.bl.size) root q (by omega) (by omega))
    rw [HV.out] at CO;obtain ⟨c,HC⟩:∃c,Hid (v.1=c):=⟨_,rfl⟩;rw [HC.out];have D4:Hid (v.1=0→∃bv,cs=recN q v.2 bv∧Dgs w2.heap.size w4 bv (hasN v.2)):=fun h0=>by
     obtain ⟨bv,e1,e2⟩:=HZ3.out h0;exact ⟨bv,e1,e2.kq (Kq.of_below b4)⟩
    clear b4 hR4 HZ3;go_wp2_with (first
     | (refine wpList_store_row rfl 58 (.tmp 11) (.tmp 42) rfl w3.heap.size cs rfl rfl 58 _ X3.out (by rw [HZ1.out];exact iRec27) (by rw [HZ1.out];rfl) HZ2.out ?_;rw [hw4]))
    refine CO.out.mono ?_;rintro e5 w5 ⟨cs',rfl,hy1,hy2,hy3,hy4,hb5⟩;have L5:=hid (L4.out.on hb5);have R5:Hid (Has w5 (w.heap.size+1) 4 #[.bool false]):=R4.out.kept hb5 R4.out.inside;have I5:Hid (Has w5 w.heap.size 3 #[.int .i64 st]):=I4.out.kept hb5 I4.out.inside;have X5:Hid (Has w5 w3.heap.size 58 cs):=X4.out.kept hb5 X4.out.inside;have HY1:=hid hy1;have HY2:=hid hy2;obtain ⟨w6,hw6⟩:∃V,(w5.alloc (.cells #[.string ⟨#[]⟩,.int .i64 0,.bool false,.int .i64 0,.int .i64 0,.int .i64 0,.int .u32 0,.int .u32 0,.int .u32 0,.int .u32 0,.int .u32 0,.int .u32 0,.int .u32 0,.int .u32 0,.int .u32 0,.int .u32 0,.int .u32 0,.int .u32 0,.int .u32 0,.int .u32 0,.int .u32 0,.int .u32 0,.int .i64 0,.slice none 0 0,.string ⟨#[]⟩,.int .i64 0,.int .i64 0] 58)).setRow w5.heap.size cs'=V:=⟨_,rfl⟩;have Y5:Hid (Has (w5.alloc (.cells #[.string ⟨#[]⟩,.int .i64 0,.bool false,.int .i64 0,.int .i64 0,.int .i64 0,.int .u32 0,.int .u32 0,.int .u32 0,.int .u32 0,.int .u32 0,.int .u32 0,.int .u32 0,.int .u32 0,.int .u32 0,.int .u32 0,.int .u32 0,.int .u32 0,.int .u32 0,.int .u32 0,.int .u32 0,.int .u32 0,.int .i64 0,.slice none 0 0,.string ⟨#[]⟩,.int .i64 0,.int .i64 0] 58)) w5.heap.size 58 #[.string ⟨#[]⟩,.int .i64 0,.bool false,.int .i64 0,.int .i64 0,.int .i64 0,.int .u32 0,.int .u32 0,.int .u32 0,.int .u32 0,.int .u32 0,.int .u32 0,.int .u32 0,.int .u32 0,.int .u32 0,.int .u32 0,.int .u32 0,.int .u32 0,.int .u32 0,.int .u32 0,.int .u32 0,.int .u32 0,.int .i64 0,.slice none 0 0,.string ⟨#[]⟩,.int .i64 0,.int .i64 0]):=Has.fresh _ _ _;have b6:Below w5.heap.size w5 w6:=hw6▸((Below.refl _ _).alloc (Nat.le_refl _) _).rowK (Nat.le_refl _) _;have Y6:Hid (Has w6 w5.heap.size 58 cs'):=by rw [←hw6];exact Y5.out.row
    have X6:Hid (Has w6 w3.heap.size 58 cs):=X5.out.kept b6 X5.out.inside;have L6:=hid (L5.out.on b6);have R6:Hid (Has w6 (w.heap.size+1) 4 #[.bool false]):=R5.out.kept b6 R5.out.inside;have I6:Hid (Has w6 w.heap.size 3 #[.int .i64 st]):=I5.out.kept b6 I5.out.inside;have TW:Hid (Twin w6 cs cs'):=by
     by_cases h0:v.1=0
     · obtain ⟨bv,e1,e2⟩:=D4.out h0
       obtain ⟨bv',e3,e4⟩:=hy3 h0;have e2':=(e2.kq (Kq.of_below hb5)).kq (Kq.of_below b6);have e4':=e4.kq (Kq.of_below b6);obtain ⟨A1,c1,rfl⟩:=e2.form;obtain ⟨A2,c2,rfl⟩:=e4.form;exact ⟨⟨_,_,_,_,_,_,A1,A2,_,c1,c2,hasN v.2,_,_,e1,e3,e2',e4',rfl,HLN.out h0⟩⟩
     · rw [HZ4.out h0,hy4 h0]
       exact ⟨⟨[],0,0,0,0,[],none,none,0,0,0,[],0,0,rfl,rfl,Dgs.nil _ _,Dgs.nil _ _,rfl,by omega⟩⟩
    have CW:=hid (rwhole6_any TW.out);have LA:Hid ((loadVar 58 ⟨w3.heap.size,0,none⟩).run Tryz.prog w6=.ok (.agg cs) w6):=load_rec X6.out HZ1.out;have LB:Hid ((loadVar 58 ⟨w5.heap.size,0,none⟩).run Tryz.prog w6=.ok (.agg cs') w6):=load_rec Y6.out HY1.out;rw [HC.out];clear hy1 hy2 hy3 hy4 hb5 b6 TW D4;go_wp2_with (first
     | (refine wpList_store_row rfl 58 (.tmp 13) (.tmp 49) rfl w5.heap.size cs' rfl rfl 58 _ Y5.out (by rw [HY1.out];exact iRec27) (by rw [HY1.out];rfl) HY2.out ?_;rw [hw6])
     | (refine wpList_load_g (by rfl) 58 (.tmp 11) rfl w3.heap.size 0 rfl cs LA.out ?_)
     | (refine wpList_load_g (by rfl) 58 (.tmp 13) rfl w5.heap.size 0 rfl cs' LB.out ?_))
    refine CW.out.mono ?_;rintro e7 w7 ⟨rfl,hb7⟩;obtain ⟨w8,hw8⟩:∃V,w7.alloc (.cells #[.slice none 0 0] 64)=V:=⟨_,rfl⟩;have b8:Below w7.heap.size w7 w8:=hw8▸(Below.refl _ _).alloc (Nat.le_refl _) _;have T8:Hid (Has w8 w7.heap.size 64 #[.slice none 0 0]):=by rw [←hw8];exact Has.fresh _ _ _
    have b68:Below w6.heap.size w6 w8:=hb7.trans (b8.mono hb7.size);have L8:=hid (L6.out.on b68);have HB7:=hid hb7;have B68:=hid b68;have R8:Hid (Has w8 (w.heap.size+1) 4 #[.bool false]):=R6.out.kept b68 R6.out.inside;have I8:Hid (Has w8 w.heap.size 3 #[.int .i64 st]):=I6.out.kept b68 I6.out.inside;obtain ⟨own8,hR8,_⟩:=L8.out.swap.headR;have CR:=hid (rroot_any hR8 root (by omega))
    obtain ⟨rc,HRC⟩:∃rc,Hid (rootE M.now root=rc):=⟨_,rfl⟩;rw [HRC.out] at CR;have hs8:w7.heap.size+1≤w8.heap.size:=by rw [←hw8];simp
    clear hb7 b8 b68 hR8 X6 Y6 LA LB CW;go_wp2_with fail
    try rw [hw8]
    refine CR.out.mono ?_;rintro e9 w9 ⟨rfl,hb9⟩;have L9:=hid (L8.out.on hb9);have R9:Hid (Has w9 (w.heap.size+1) 4 #[.bool false]):=R8.out.kept hb9 R8.out.inside;have I9:Hid (Has w9 w.heap.size 3 #[.int .i64 st]):=I8.out.kept hb9 I8.out.inside;have T9:Hid (Has w9 w7.heap.size 64 #[.slice none 0 0]):=T8.out.kept hb9 T8.out.inside;have B69:Hid (Below w6.heap.size w6 w9):=B68.out.trans (hb9.mono B68.out.size);have HS9:=hid (Nat.le_trans hs8 hb9.size);obtain ⟨l,HLL⟩:∃l,Hid (inL M.now root=l):=⟨_,rfl⟩;obtain ⟨nl,HNL⟩:∃nl,Hid (l.length=nl):=⟨_,rfl⟩;have HNB:Hid (nl≤100000):=by
     obtain ⟨own9,hD9⟩:=L9.out.headD;obtain ⟨m1,m2,sv,vs,h'⟩:=hD9;have e1:=h'.tr1.len;have e2:=len_in M.now root;rw [HLL.out,HNL.out] at e2;show nl≤100000
     omega
    clear hb9 hs8;go_upto_if 63 with fail
    go_cut [] from 19 (fun wx=>Hid (∃(A:Option Addr) (c:Nat),Has wx w7.heap.size 64 #[.slice A nl c]∧TRow (w7.heap.size+1) wx (.slice A nl c) l∧Below w6.heap.size w6 wx))
    case first =>
     by_cases hc:rc=0
     · obtain ⟨own9,hR9,_⟩:=L9.out.swap.headR
       have hmr:mayB root=true:=by
        have:=HRC.out;unfold rootE at this;rw [hc] at this;by_cases h:mayB root=true
        · exact h
        · simp [h] at this
       have CN:=hid (rnodes_any hR9 root hmr);rw [HLL.out] at CN;subst hc;clear hR9 hmr;go_wp2_with fail
       refine CN.out.mono ?_;rintro e10 w10 ⟨nv,rfl,hrow,hb10⟩;have T10:Hid (Has w10 w7.heap.size 64 #[.slice none 0 0]):=T9.out.kept hb10 T9.out.inside;have B610:Hid (Below w6.heap.size w6 w10):=B69.out.trans (hb10.mono B69.out.size);obtain ⟨A3,c3,rfl⟩:=hrow.form;have HROW:=hid (hrow.mono HS9.out);rw [HNL.out] at HROW ⊢;have t0:=T10.out.at_ 0;have t1:=T10.out.free 0;clear hrow hb10;go_wp2_with fail
       go_meet;refine ⟨A3,c3,T10.out.put 0 _,?_,B610.out.setCell (p:=⟨w7.heap.size,0,none⟩) HB7.out.size _⟩;exact row_of HROW.out fun g hg=>Below.heap_setCell w10 ⟨w7.heap.size,0,none⟩ _ g (by
        rintro rfl;have:w7.heap.size+1≤w7.heap.size:=(World.ownsRow.lt HROW.out _ hg).1;omega)
     · have qc:(rc == 0)=false:=by simpa using hc
       have hnil:l=[]:=by
        obtain ⟨_,hD⟩:=L9.out.headD;rw [←HLL.out];exact in_bad hD.good.w1 root (by rw [HRC.out];exact hc)
       have hn0:nl=0:=by rw [←HNL.out,hnil];rfl
       have N0:=hid hn0;have NIL:=hid hnil;clear hnil hn0 hc;go_wp2_with fail
       go_meet;refine ⟨none,0,?_,?_,B69.out⟩
       · rw [N0.out];exact T9.out
       · rw [N0.out,NIL.out];exact TRow.nil _ _
    case rest =>
     obtain ⟨A3,c3,hT,hW,hB⟩:=hcut.out;have B11:=hid hB;have T11:=hid hT;have W11:=hid hW;have I11:Hid (Has wc w.heap.size 3 #[.int .i64 st]):=I6.out.kept B11.out I6.out.inside;have hcap:nl≤c3:=cap_row (W11.out.mono (Nat.zero_le _));have v0:=I11.out.at_ 0;have u0:=T11.out.at_ 0;obtain ⟨w11,hw11⟩:∃V,wc=V:=⟨_,rfl⟩;rw [hw11] at v0 u0 B11 T11 W11 I11 ⊢;obtain ⟨bc,HBC⟩:∃b,Hid ((decide (0≤st)&&decide (st < (nl:Int)))=b):=⟨_,rfl⟩;obtain ⟨m,HM⟩:∃m:Nat,Hid ((bc=true∧st=(m:Int)∧m < nl)∨(bc=false∧m=nl)):=by
      cases bc with
      | true =>
       have:=HBC.out;simp only [Bool.and_eq_true,decide_eq_true_eq] at this;exact ⟨st.toNat,.inl ⟨rfl,by omega,by omega⟩⟩
      | false=>exact ⟨nl,.inr ⟨rfl,rfl⟩⟩
     clear hT hW hB hcut hw11;go_upto_region 13 with fail
     go_cut [74] from 19 (fun t wx=>t=.bool bc∧wx=w11)
     case first =>
      by_cases h0:0≤st
      · by_cases h1:st < (nl:Int)
        · have hb:bc=true:=by rw [←HBC.out];simp [h0,h1]
          have HB2:=hid hb;clear hb;go_wp2_with fail
          go_meet;exact ⟨by rw [HB2.out],rfl⟩
        · have hb:bc=false:=by rw [←HBC.out];simp [h1]
          have HB2:=hid hb;clear hb;go_wp2_with fail
          go_meet;exact ⟨by rw [HB2.out],rfl⟩
      · have hb:bc=false:=by rw [←HBC.out];simp [h0]
        have HB2:=hid hb;clear hb;go_wp2_with fail
        go_meet;exact ⟨by rw [HB2.out],rfl⟩
     case rest =>
      obtain ⟨rfl,rfl⟩:=hcut;go_upto_if 74 with fail
      go_cut [] from 19 (fun wx=>Hid (Has wx w7.heap.size 64 #[.slice A3 m c3]∧TRow (w7.heap.size+1) wx (.slice A3 nl c3) l∧Below w6.heap.size w6 wx))
      case first =>
       cases bc with
       | true =>
        have hst:st=(m:Int)∧m < nl:=by
         rcases HM.out with ⟨_,h1,h2⟩ | ⟨h1,_⟩
         · exact ⟨h1,h2⟩
         · cases h1
        obtain ⟨rfl,hmn⟩:=hst;have hm0:(0:Int)≤(m:Int):=by omega
        have hmc:(m:Int)≤(c3:Int):=by omega
        have u1:=T11.out.free 0;go_wp2_with fail
        go_meet;refine ⟨T11.out.put 0 _,?_,B11.out.setCell (p:=⟨w7.heap.size,0,none⟩) HB7.out.size _⟩;exact row_of W11.out fun g hg=>Below.heap_setCell _ ⟨w7.heap.size,0,none⟩ _ g (by
         rintro rfl;have:w7.heap.size+1≤w7.heap.size:=(World.ownsRow.lt W11.out _ hg).1;omega)
       | false =>
        have hmn:m=nl:=by
         rcases HM.out with ⟨h1,_⟩ | ⟨_,h1⟩
         · cases h1
         · exact h1
        subst hmn;go_wp2_with fail
        go_meet;exact ⟨T11.out,W11.out,B11.out⟩
      case rest =>
       obtain ⟨hT,hW,hB⟩:=hcut.out;obtain ⟨ww,hww⟩:∃V,wc=V:=⟨_,rfl⟩;rw [hww] at hT hW hB ⊢;have TW2:=hid hT;have WW2:=hid hW;have BWW:=hid hB;have hm1:m≤nl:=by
        rcases HM.out with ⟨_,_,h2⟩ | ⟨_,h1⟩<;>omega
       clear hT hW hB hcut hww v0 u0 hcap;have CE:=hid (fun W=>weach_any p root W)
       go_wp2_with fail
       refine (CE.out _).mono ?_;rintro e13 w13 ⟨rfl,hw13⟩;go_wp2_with fail
       rw [←hw13];have b13:Below ww.heap.size ww w13:=by rw [hw13];exact (((Below.refl _ _).alloc (Nat.le_refl _) _).alloc (by simp) _).alloc (by simp;omega) _
       have s13:w13.heap.size=ww.heap.size+3:=by rw [hw13];simp
       have N13:Has w13 ww.heap.size 3 #[.int .i64 0]:=by rw [hw13];exact ((Has.fresh ww _ _).more _).more _
       have D13:Has w13 (ww.heap.size+1) 26 #[.pointer (some ⟨p,0,none⟩)]:=by rw [hw13];exact (Has.fresh' _ _ _ (by simp)).more _
       have E13:Has w13 (ww.heap.size+1+1) 9 #[kS root]:=by rw [hw13];exact Has.fresh' _ _ _ (by simp)
       clear hw13;have B613:Hid (Below w6.heap.size w6 w13):=BWW.out.trans (b13.mono BWW.out.size);have HB13:=hid b13;have HS13:=hid s13;have L13:=hid (L6.out.on B613.out);have RW:Hid (Has ww (w.heap.size+1) 4 #[.bool false]):=R6.out.kept BWW.out R6.out.inside;have IW:Hid (Has ww w.heap.size 3 #[.int .i64 st]):=I6.out.kept BWW.out I6.out.inside;obtain ⟨own13,hD13⟩:=L13.out.headD;have ST:=each_stops 8 (by omega) hD13 (GW.out _ L13.out.bl).1 root (by omega) _ _ D13 E13 l HLL.out
       have BW:Hid (Below w.heap.size w ww):=L6.out.bl.trans (BWW.out.mono L6.out.bl.size);have hmx:Tryz.prog.follows .mixedOrders=true:=by kernel_rfl
       clear hD13 b13 s13 D13 E13;refine (wpIn_wide (n:=9)).1 ?_;refine wpIn_rangeFunc_ownH (F:=Fence.wide) (n:=9) rfl (by omega) (gf:=66) (lb:=#[.pointer (some ⟨ww.heap.size+1,0,none⟩),.pointer (some ⟨ww.heap.size+1+1,0,none⟩)]) rfl trivial (enters_of Tryz.func66 (by kernel_rfl) rfl)
        ST KpE.trans (fun W il o o' h1 h2 h3 h4=>KpE.putObj _ W il o o' h1 h2 h3 h4) (Below.refl _ _) (fun _=>rfl)
        (fun pre W=>Has W ww.heap.size 3 #[.int .i64 (pre.length:Int)]∧Below ww.heap.size ww W∧pre.length≤m∧plainX pre <+: l)
        (fun cc pre W=>(cc=Code.exit 0∧Has W ww.heap.size 3 #[.int .i64 (m:Int)]∧Below ww.heap.size ww W)∨(cc=Code.ret∧¬plainX pre <+: l)) ?hI ?hIx ⟨N13,HB13.out,Nat.zero_le _,List.nil_prefix⟩
        (fun x a' W=>∃gn,a' = { tmps:=#[.slice A n cap,kS root,kS q,.int .i64 st,undef,undef,undef,.pointer (some ⟨w.heap.size,0,none⟩),.pointer (some ⟨w.heap.size+1,0,none⟩),.pointer (some ⟨p,0,none⟩),.pointer (some ⟨q0,0,none⟩),.pointer (some ⟨w3.heap.size,0,none⟩),.int .i64 c,.pointer (some ⟨w5.heap.size,0,none⟩),.int .i64 c,.pointer (some ⟨w7.heap.size,0,none⟩),.pointer (some ⟨ww.heap.size,0,none⟩),kS x.1.1,.pointer (some ⟨gn,0,none⟩),u19,u20,u21,u22,u23,u24,u25,u26,u27,u28,u29,u30,u31,u32,u33,u34,u35,u36,u37,u38,u39,u40,u41,u42,u43,u44,u45,u46,u47,u48,u49,u50,u51,u52,u53,u54,u55,u56,u57,u58,u59,u60,u61,u62,u63,u64,u65,u66,u67,u68,u69,u70,u71,u72,u73,u74,u75,u76,u77,.pointer (some ⟨p,0,none⟩),kS root,.func (.func 66) #[] #[.pointer (some ⟨ww.heap.size+1,0,none⟩),.pointer (some ⟨ww.heap.size+1+1,0,none⟩)],kS x.1.1,nodeV x.1.2,u83,u84,u85,u86,u87,u88,u89,u90,u91,u92,u93,u94,u95,u96,u97,u98,u99,u100,u101,u102,u103,u104,u105,u106,u107,u108,u109,u110,u111,u112,u113,u114],defers:=[] }∧Has W gn 71 (ndA x.1.2.kind x.1.2.data x.1.2.target x.1.2.time)) ?hAx ?assign ?body ?done ?stop
       case hI =>
        rintro pre W W' row ⟨hN,hB,h1,h2⟩ hg hr;refine ⟨hN.kq (Kq.of_own hg (fun r e=>(hr r e).2)),hB.grown hg hB.size (fun r e=>?_),h1,h2⟩
        have:=(hr r e).1;have:=HS13.out;omega
       case hIx =>
        rintro cc pre W W' row (⟨rfl,hN,hB⟩ | h) hg hr
        · refine .inl ⟨rfl,hN.kq (Kq.of_own hg (fun r e=>(hr r e).2)),hB.grown hg hB.size (fun r e=>?_)⟩
          have:=(hr r e).1;have:=HS13.out;omega
        · exact .inr h
       case hAx =>
        rintro x a' u W W' row ⟨gn,ha,hn9⟩ hg hr;exact ⟨gn,ha,hn9.kq (Kq.of_own hg (fun r e=>(hr r e).2))⟩
       case assign =>
        rintro il pre ⟨⟨q9,⟨kd,dt,tg,tm⟩⟩,hx⟩ W K ⟨hN,hB,h1,h2⟩ hK;dsimp only [encX,nodeV];have HK:=hid hK;have FA:Hid (Has (W.alloc (.cells #[.int .i64 kd,kS dt,kS tg,.int .i64 tm] 71)) W.heap.size 71 #[.int .i64 kd,kS dt,kS tg,.int .i64 tm]):=Has.fresh _ _ _;have BA:=hid ((Below.refl W.heap.size W).alloc (Nat.le_refl _) (.cells #[.int .i64 kd,kS dt,kS tg,.int .i64 tm] 71));have HN9:=hid hN;have HB9:=hid hB;clear hK hN hB;gi_wp2;exact HK.out _ _ (KeepsFrom.of_grownBy (grown_none BA.out) (fun _ e=>by cases e)) (KpE.of_below BA.out) ⟨HN9.out.kept BA.out HN9.out.inside,HB9.out.trans (BA.out.mono HB9.out.size),h1,h2⟩ ⟨W.heap.size,rfl,FA.out⟩
       case done =>
        rintro D ys W hD hys ⟨hN,hB,h1,_⟩ hK;have hyl:ys.length=l.length:=by rw [←plainX_len,hys]
        have hym:(ys.length:Int)=(m:Int):=by have:=HNL.out;omega
        rw [hym] at hN;have n0:=hN.at_ 0;have l0:W.cell? ⟨w7.heap.size,0,none⟩=some (.slice A3 m c3):=(TW2.out.kept hB TW2.out.inside).at_ 0;clear hyl hym h1;have HBW:Hid (Below w.heap.size w W):=BW.out.trans (hB.mono BW.out.size);have HRW:Hid (Has W (w.heap.size+1) 4 #[.bool false]):=RW.out.kept hB RW.out.inside;have HK:=hid hK;clear hN hB hK;go_wp2_with fail
        refine (CA.out _ HBW.out).mono ?_;rintro e9 W9 ⟨rfl,hb9⟩;have R9:=HRW.out.kept hb9 HRW.out.inside;have B9:Hid (Below w.heap.size w W9):=HBW.out.trans (hb9.mono HBW.out.size);have c0:=R9.at_ 0;have c1:=R9.free 0;obtain ⟨W10,hW10⟩:∃W10,W9.setCell ⟨w.heap.size+1,0,none⟩ (.bool true)=W10:=⟨_,rfl⟩;have K10:Hid (W10.heap[D]? = some (.deferred (some []))):=by
         rw [←hW10];have k9:=(hb9.block D (Array.getElem?_eq_some_iff.1 HK.out).1).trans HK.out;refine (Below.heap_setCell W9 ⟨w.heap.size+1,0,none⟩ _ D ?_).trans k9;rintro rfl;have:=R9;unfold Has at this;rw [k9] at this;cases this
        have Y10:Hid (Has W10 (w.heap.size+1) 4 #[.bool true]):=by rw [←hW10];exact R9.put 0 _
        have BF:Hid (Below w.heap.size w W10):=by rw [←hW10];exact B9.out.setCell (p:=⟨w.heap.size+1,0,none⟩) (by show _≤w.heap.size+1;omega) _
        clear hb9 R9;go_wp2;try rw [hW10]
        refine ⟨by simp,.inl ⟨_,_,rfl,run_takeDeferred K10.out,?_⟩⟩
        have kq:Kq W10 (W10.putObj D (.deferred none)):=Kq.of_own (grownBy_putObj' W10 D _) (fun r e=>by cases e;exact ⟨_,K10.out,rfl⟩)
        refine ⟨_,results_bi rfl _ _ (w.heap.size+1) true rfl ((Y10.out.kq kq).at_ 0),rfl,?_⟩;exact BF.out.grown (grownBy_putObj' W10 D _) BF.out.size (fun r e=>by cases e;have:=BW.out.size;have:=HS13.out;omega)
       case stop =>
        rintro D cc pre W hD hpre (⟨rfl,hN,hB⟩ | ⟨rfl,hno⟩) hK
        · have n0:=hN.at_ 0
          have l0:W.cell? ⟨w7.heap.size,0,none⟩=some (.slice A3 m c3):=(TW2.out.kept hB TW2.out.inside).at_ 0;refine wpIn_wide.2 ?_;have HBW:Hid (Below w.heap.size w W):=BW.out.trans (hB.mono BW.out.size);have HRW:Hid (Has W (w.heap.size+1) 4 #[.bool false]):=RW.out.kept hB RW.out.inside;have HK:=hid hK;clear hN hB hK;go_wp2_with fail
          refine (CA.out _ HBW.out).mono ?_;rintro e9 W9 ⟨rfl,hb9⟩;have R9:=HRW.out.kept hb9 HRW.out.inside;have B9:Hid (Below w.heap.size w W9):=HBW.out.trans (hb9.mono HBW.out.size);have c0:=R9.at_ 0;have c1:=R9.free 0;obtain ⟨W10,hW10⟩:∃W10,W9.setCell ⟨w.heap.size+1,0,none⟩ (.bool true)=W10:=⟨_,rfl⟩;have K10:Hid (W10.heap[D]? = some (.deferred (some []))):=by
           rw [←hW10];have k9:=(hb9.block D (Array.getElem?_eq_some_iff.1 HK.out).1).trans HK.out;refine (Below.heap_setCell W9 ⟨w.heap.size+1,0,none⟩ _ D ?_).trans k9;rintro rfl;have:=R9;unfold Has at this;rw [k9] at this;cases this
          have Y10:Hid (Has W10 (w.heap.size+1) 4 #[.bool true]):=by rw [←hW10];exact R9.put 0 _
          have BF:Hid (Below w.heap.size w W10):=by rw [←hW10];exact B9.out.setCell (p:=⟨w.heap.size+1,0,none⟩) (by show _≤w.heap.size+1;omega) _
          clear hb9 R9;go_wp2;try rw [hW10]
          refine ⟨by simp,.inl ⟨_,_,rfl,run_takeDeferred K10.out,?_⟩⟩
          have kq:Kq W10 (W10.putObj D (.deferred none)):=Kq.of_own (grownBy_putObj' W10 D _) (fun r e=>by cases e;exact ⟨_,K10.out,rfl⟩)
          refine ⟨_,results_bi rfl _ _ (w.heap.size+1) true rfl ((Y10.out.kq kq).at_ 0),rfl,?_⟩;exact BF.out.grown (grownBy_putObj' W10 D _) BF.out.size (fun r e=>by cases e;have:=BW.out.size;have:=HS13.out;omega)
        · exact absurd hpre hno
       case body =>
        rintro il pre ⟨⟨q9,⟨kd,dt,tg,tm⟩⟩,hx⟩ a' W hil hrec ⟨hN,hB,h1,h2⟩ ⟨gn,rfl,hnd⟩ hlt;dsimp only at hnd ⊢;have l0:W.cell? ⟨w7.heap.size,0,none⟩=some (.slice A3 m c3):=(TW2.out.kept hB TW2.out.inside).at_ 0;have v0:W.cell? ⟨w.heap.size,0,none⟩=some (.int .i64 st):=(IW.out.kept hB IW.out.inside).at_ 0;have n0:=hN.at_ 0;have HN9:=hid hN;have HB9:=hid hB;have HND:=hid hnd;by_cases hkm:pre.length=m
        · have hst:st=(m:Int):=by
           rcases HM.out with ⟨_,e,_⟩ | ⟨_,e⟩
           · exact e
           · have:=HNL.out;omega
          rw [hkm] at HN9 n0;rw [hst] at v0;clear hN hB hnd hrec hst hkm h1 hlt hil;gi_wp2;exact ⟨KeepsFrom.refl _ _,.inl ⟨rfl,HN9.out,HB9.out⟩⟩
        · have hkl:pre.length < l.length:=hlt
          obtain ⟨g3,c',e,_,hat⟩:=(WW2.out.on hB).at_ pre.length hkl;injection e with e e2 e3;clear e2 e3;subst e;obtain ⟨⟨zp,⟨zk,zd,zt,zm⟩⟩,hz⟩:∃z,l.getD pre.length at0=z:=⟨_,rfl⟩;rw [hz] at hat;have HNX:Hid (plainX (pre++[⟨(q9,⟨kd,dt,tg,tm⟩),hx⟩]) <+: l→(q9,(⟨kd,dt,tg,tm⟩:Nd))=(zp,⟨zk,zd,zt,zm⟩)):=fun h=>by have:=pre_next h;rw [hz] at this;exact this
          have HPM:Hid ((q9,(⟨kd,dt,tg,tm⟩:Nd))=(zp,⟨zk,zd,zt,zm⟩)→plainX (pre++[⟨(q9,⟨kd,dt,tg,tm⟩),hx⟩]) <+: l):=fun h=>pre_more h2 hkl (by rw [hz];exact h)
          obtain ⟨k,HKK⟩:∃k,Hid (pre.length=k):=⟨_,rfl⟩;rw [HKK.out] at hat n0 HN9 h1 hkm;have klm:k < m:=by omega
          have klt:(k:Int) < (m:Int):=by omega
          have k0:(0:Int)≤(k:Int):=by omega
          have kne:((k:Int) == (m:Int))=false:=by simp;omega
          have hkb:(k:Int)≤100000:=by have:=HNB.out;omega
          have wk1:IntKind.i64.wrap ((k:Int)+1)=(k:Int)+1:=i64in _ (by omega) (by omega)
          obtain ⟨Wf,hWf⟩:∃Wf,W.drew=Wf:=⟨_,rfl⟩;have bf:Below W.heap.size W Wf:=hWf▸(Below.refl _ _).drew;have BF9:=hid bf;have HBF:=hid (hB.trans (bf.mono hB.size));have NF:=hid (HN9.out.kept bf HN9.out.inside);have AF:=hat.on bf;have SF:Hid (Wf.cell? ⟨w7.heap.size,0,none⟩=some (.slice (some ⟨g3,0,none⟩) m c3)∧Wf.cell? ⟨ww.heap.size,0,none⟩=some (.int .i64 (k:Int))∧Wf.cell? ⟨g3,k*5,none⟩=some (kS zp)∧(loadVar 71 ⟨g3,k*5+1,none⟩).run Tryz.prog Wf=.ok (.agg (ndA zk zd zt zm)) Wf∧(loadVar 71 ⟨gn,0,none⟩).run Tryz.prog Wf=.ok (.agg (ndA kd dt tg tm)) Wf) :=
           ⟨(TW2.out.kept HBF.out TW2.out.inside).at_ 0,NF.out.at_ 0,AF.c0,AF.node,load_nodeC (HND.out.kept bf HND.out.inside)⟩
          have RF:=hid (RW.out.kept HBF.out RW.out.inside);clear hN hB hnd hrec hkl hlt hil hat hz bf AF hkm h1 h2;by_cases hp:q9=zp
          · subst hp
            obtain ⟨b,HBB⟩:∃b,Hid ((!decide ((⟨kd,dt,tg,tm⟩:Nd)=⟨zk,zd,zt,zm⟩))=b):=⟨_,rfl⟩;gi_wp2;refine region_round (S:=fun V=>V.cell? ⟨w7.heap.size,0,none⟩=some (.slice (some ⟨g3,0,none⟩) m c3)∧V.cell? ⟨ww.heap.size,0,none⟩=some (.int .i64 (k:Int))∧V.cell? ⟨g3,k*5,none⟩=some (kS q9)∧(loadVar 71 ⟨g3,k*5+1,none⟩).run Tryz.prog V=.ok (.agg (ndA zk zd zt zm)) V∧(loadVar 71 ⟨gn,0,none⟩).run Tryz.prog V=.ok (.agg (ndA kd dt tg tm)) V) hmx (by kernel_rfl) (by rw [hWf];exact SF.out) (fun hS=>?_)
            clear hS;rw [hWf];have hzz:=SF.out;refine inI 0 ?_
            iterate 8
             refine stI (v:=?_) (by simp only [lkA,lkB,lkC];rfl) (by kernel_rfl) (fun _ _ _ h=>h) (by rfl) (by assumption) ?_ ?_
             rotate_left 1
             · intro w hSw
               obtain ⟨s1,s2,s3,_,_⟩:=hSw;go_simp
               with_reducible rfl
             simp only [Act.put,siA,siB,siC,Nat.reduceAdd]
            refine outI ?_;refine' wpAnyH_take (i:=8) (v:=_) (by simp only [lkA,lkB,lkC];rfl) (by kernel_rfl) (by kernel_rfl) (by kernel_rfl) (fun _ _ _ h=>h) (yields_loadA (by rfl) 71 (.tmp 18) rfl gn 0 rfl (ndA kd dt tg tm) (fun X hSX=>hSX.2.2.2.2)) (by assumption) ?_
            simp only [Act.put,siA,siB,siC];refine inI 9 ?_
            iterate 4
             refine stI (v:=?_) (by simp only [lkA,lkB,lkC];rfl) (by kernel_rfl) (fun _ _ _ h=>h) (by rfl) (by assumption) ?_ ?_
             rotate_left 1
             · intro w hSw
               obtain ⟨s1,s2,s3,_,_⟩:=hSw;go_simp
               with_reducible rfl
             simp only [Act.put,siA,siB,siC,Nat.reduceAdd]
            refine outI ?_;refine' wpAnyH_take (i:=13) (v:=_) (by simp only [lkA,lkB,lkC];rfl) (by kernel_rfl) (by kernel_rfl) (by kernel_rfl) (fun _ _ _ h=>h) (yields_loadA (by rfl) 71 (.tmp 102) rfl g3 (k*5+1) rfl (ndA zk zd zt zm) (fun X hSX=>hSX.2.2.2.1)) (by assumption) ?_
            simp only [Act.put,siA,siB,siC];refine' wpAnyH_take (i:=14) (v:=_) (by simp only [lkA,lkB,lkC];rfl) (by kernel_rfl) (by kernel_rfl) (by kernel_rfl) (fun _ _ _ h=>h) (yields_neq_n (by rfl) (.tmp 98) (.tmp 103) rfl ⟨kd,dt,tg,tm⟩ ⟨zk,zd,zt,zm⟩ rfl rfl b HBB.out) (by assumption) ?_
            simp only [Act.put,siA,siB,siC];refine tkH 15 (v:=?_) (by simp only [lkA,lkB,lkC];rfl) (by kernel_rfl) (fun _ _ _ h=>h) (by rfl) (by assumption) ?_ ?_
            rotate_left 1
            · intro w hSw
              obtain ⟨s1,s2,s3,_,_⟩:=hSw;go_simp
              with_reducible rfl
            simp only [Act.put,siA,siB,siC];clear hzz;refine wpAnyH_done (by kernel_rfl) ?_ _
            refine OnlyN.normal ?_
            cases b with
            | false =>
             have HEQ:Hid ((⟨kd,dt,tg,tm⟩:Nd)=⟨zk,zd,zt,zm⟩):=by have h:=HBB.out;rw [Bool.not_eq_false'] at h;show _=_;exact of_decide_eq_true h
             have f0:=NF.out.at_ 0;have f1:=NF.out.free 0;gi_wp2;refine ⟨(KeepsFrom.of_grownBy (grown_none BF9.out) (fun _ e=>by cases e)).trans ((KeepsOthers.setCell _ _ _).from _),(KpE.of_below BF9.out).trans (KpE.of_but NF.out (by decide) (fun j hj _=>Below.heap_setCell _ _ _ j hj)),?_,HBF.out.setCell (p:=⟨ww.heap.size,0,none⟩) (Nat.le_refl _) _,?_,HPM.out (by rw [HEQ.out])⟩
             · have:=NF.out.put 0 (.int .i64 ((k:Int)+1))
               have el:(((pre++[⟨(q9,⟨kd,dt,tg,tm⟩),hx⟩]:List (InX l)).length:Nat):Int)=(k:Int)+1:=by rw [List.length_append,HKK.out];simp
               rw [el];exact this
             · rw [List.length_append,HKK.out];exact klm
            | true =>
             have HNE:Hid (¬(⟨kd,dt,tg,tm⟩:Nd)=⟨zk,zd,zt,zm⟩):=by have h:=HBB.out;rw [Bool.not_eq_true'] at h;show ¬_;exact of_decide_eq_false h
             have f0:=RF.out.at_ 0;have f1:=RF.out.free 0;gi_wp2;exact ⟨(KeepsFrom.of_grownBy (grown_none BF9.out) (fun _ e=>by cases e)).trans ((KeepsOthers.setCell _ _ _).from _),.inr ⟨rfl,fun h=>HNE.out (congrArg Prod.snd (HNX.out h))⟩⟩
          · have q1:¬(ba q9).toList=(ba zp).toList:=fun e=>hp (by rw [toList_tl,toList_tl,tl_ba,tl_ba] at e;exact e)
            have q2:((ba q9).toList == (ba zp).toList)=false:=by simpa using q1
            have HNE:Hid (¬q9=zp):=hp;clear hp;gi_wp2;refine region_round (S:=fun V=>V.cell? ⟨w7.heap.size,0,none⟩=some (.slice (some ⟨g3,0,none⟩) m c3)∧V.cell? ⟨ww.heap.size,0,none⟩=some (.int .i64 (k:Int))∧V.cell? ⟨g3,k*5,none⟩=some (kS zp)∧(loadVar 71 ⟨g3,k*5+1,none⟩).run Tryz.prog V=.ok (.agg (ndA zk zd zt zm)) V∧(loadVar 71 ⟨gn,0,none⟩).run Tryz.prog V=.ok (.agg (ndA kd dt tg tm)) V) hmx (by kernel_rfl) (by rw [hWf];exact SF.out) (fun hS=>?_)
            clear hS;rw [hWf];have hzz:=SF.out;refine inI 0 ?_
            iterate 8
             refine stI (v:=?_) (by simp only [lkA,lkB,lkC];rfl) (by kernel_rfl) (fun _ _ _ h=>h) (by rfl) (by assumption) ?_ ?_
             rotate_left 1
             · intro w hSw
               obtain ⟨s1,s2,s3,_,_⟩:=hSw;go_simp
               with_reducible rfl
             simp only [Act.put,siA,siB,siC,Nat.reduceAdd]
            refine outI ?_;refine skH 8 (by simp only [lkA,lkB,lkC];rfl) (by kernel_rfl) (fun _ _ _ h=>h) (by rfl) (by assumption) ?_
            simp only [Act.put,siA,siB,siC];refine skH 9 (by simp only [lkA,lkB,lkC];rfl) (by kernel_rfl) (fun _ _ _ h=>h) (by rfl) (by assumption) ?_
            simp only [Act.put,siA,siB,siC];refine skH 10 (by simp only [lkA,lkB,lkC];rfl) (by kernel_rfl) (fun _ _ _ h=>h) (by rfl) (by assumption) ?_
            simp only [Act.put,siA,siB,siC];refine skH 11 (by simp only [lkA,lkB,lkC];rfl) (by kernel_rfl) (fun _ _ _ h=>h) (by rfl) (by assumption) ?_
            simp only [Act.put,siA,siB,siC];refine skH 12 (by simp only [lkA,lkB,lkC];rfl) (by kernel_rfl) (fun _ _ _ h=>h) (by rfl) (by assumption) ?_
            simp only [Act.put,siA,siB,siC];refine skH 13 (by simp only [lkA,lkB,lkC];rfl) (by kernel_rfl) (fun _ _ _ h=>h) (by rfl) (by assumption) ?_
            simp only [Act.put,siA,siB,siC];refine skH 14 (by simp only [lkA,lkB,lkC];rfl) (by kernel_rfl) (fun _ _ _ h=>h) (by rfl) (by assumption) ?_
            simp only [Act.put,siA,siB,siC];refine tkH 15 (v:=?_) (by simp only [lkA,lkB,lkC];rfl) (by kernel_rfl) (fun _ _ _ h=>h) (by rfl) (by assumption) ?_ ?_
            rotate_left 1
            · intro w hSw
              obtain ⟨s1,s2,s3,_,_⟩:=hSw;go_simp
              with_reducible rfl
            simp only [Act.put,siA,siB,siC];clear hzz;refine wpAnyH_done (by kernel_rfl) ?_ _
            refine OnlyN.normal ?_;have f0:=RF.out.at_ 0;have f1:=RF.out.free 0;gi_wp2;exact ⟨(KeepsFrom.of_grownBy (grown_none BF9.out) (fun _ e=>by cases e)).trans ((KeepsOthers.setCell _ _ _).from _),.inr ⟨rfl,fun h=>HNE.out (congrArg Prod.fst (HNX.out h))⟩⟩
end Go.Proofs.YtahkcemdbfjilaaGreatDoor
