/- Several texts in one. Conditions: those said at each. -/
import Derived.Test.YtahkcemdbfjilaaGreatDoorIt00
import Derived.Test.YtahkcemdbfjilaaGreatDoorIt27
set_option linter.unusedSimpArgs false
set_option linter.unusedVariables false
set_option maxRecDepth 100000
namespace Go.Proofs.YtahkcemdbfjilaaGreatDoor
open Go.RowKit Go.Maps
attribute [local go_sem] Oper.semAt_some
theorem iFound:(Tryz.prog.info? 39).map (·.size)=some 4:=by kernel_rfl
theorem results_found {fn:Func} {c:Nat} {t:Tmp} (h:fn.results=#[.cell c 39,.tmp t]) (tmps:Array Value) (w:World) (g:Nat) (cs:Array Value) (hc:tmps.getD c undef=.pointer (some ⟨g,0,none⟩)) (hg:Has w g 39 cs) (hi:cs.size=4) :
 (results fn tmps).run Tryz.prog w=.ok (.tuple #[.agg cs,tmps.getD t undef]) w:=by
 have hp':tmps[c]?.getD undef=.pointer (some ⟨g,0,none⟩):=by simpa using hc
 have hl:=run_loadVar_row (P:=Tryz.prog) w g 39 39 cs (0,0) _ hg Tryz.underlying39 rfl (by rw [hi];exact iFound)
 simp [results,h,hp',asAddr,hl]
theorem load_found {w:World} {g:Nat} {cs:Array Value} (hg:Has w g 39 cs) (hs:cs.size=4):(loadVar 39 ⟨g,0,none⟩).run Tryz.prog w=.ok (.agg cs) w :=
 run_loadVar_row (P:=Tryz.prog) w g 39 39 _ (0,0) _ hg Tryz.underlying39 rfl (by rw [hs];exact iFound)
def noF:Fnd:=⟨[],[],[],[]⟩
def foundM (lo:Option (List By)) (L:Tr) (root:By):Fnd:=if rootE L root=0 then walkF (igB lo) (inL L root) else noF
def WalkP (w:World) (c:Int) (f:Fnd) (e:Ending) (w':World):Prop:=∃(vi:Value) (vs:Nat→Value),e=.returned (.tuple #[.agg #[vi,vs 1,vs 2,vs 3],.int .i64 c])∧RecR w.heap.size w' vi f.items∧(∀k,1≤k→k≤3→StrR w.heap.size w' (vs k) (lsOf f k))∧Below w.heap.size w w'
theorem StrR.none (B:Nat) (w:World) (k:Nat):StrR B w (.slice none 0 0) (lsOf noF k):=by
 have:lsOf noF k=[]:=by unfold lsOf noF;simp
 rw [this];exact StrR.nil B w
set_option maxHeartbeats 16000000 in
theorem walk_any {own:Nat→Prop} {w:World} {p:Nat} {M:Mo} (h:Dsk own w p M) (hG:Gd w) (hT:Sha.Tab w) (hDG:DG M.now) (root:By) (v:Value) (lo:Option (List By)) (hv:Lst w v lo) :
 Calls Tryz.prog 13 #[.pointer (some ⟨p,0,none⟩),kS root,v] w fun e w'=>WalkP w (rootE M.now root) (foundM lo M.now root) e w':=by
 obtain ⟨w1,hw1⟩:∃w1,(w.alloc (.cells #[v] 30)).alloc (.cells #[.slice none 0 0,.slice none 0 0,.slice none 0 0,.slice none 0 0] 39)=w1:=⟨_,rfl⟩;have b1:Below w.heap.size w w1:=hw1▸((Below.refl _ _).alloc (Nat.le_refl _) _).alloc (by simp) _
 have s1:w1.heap.size=w.heap.size+2:=by rw [←hw1];simp
 have L1:Has w1 w.heap.size 30 #[v]:=by rw [←hw1];exact (Has.fresh _ _ _).more _
 have F1:Has w1 (w.heap.size+1) 39 #[.slice none 0 0,.slice none 0 0,.slice none 0 0,.slice none 0 0]:=by rw [←hw1];exact Has.fresh' _ _ _ (by simp)
 have CN:=hid (noRoot_any (h.on b1) (hG.kept b1) root);have HL1:=hid L1;have HF1:=hid F1;have B1:=hid b1;have S1:=hid s1;have H:=hid h;have HG:=hid hG;have HT:=hid hT;have HV:=hid hv;have HDG:=hid hDG;obtain ⟨c,HC⟩:∃c,Hid (rootE M.now root=c):=⟨_,rfl⟩;rw [HC.out] at CN;unfold foundM;rw [HC.out];clear h hG hT hv hDG b1 s1 L1 F1;refine (callsIn_wide (n:=9)).1 ?_;refine callsIn_of_wp_marks Tryz.func13 rfl trivial ?_ rfl;simp only [Tryz.ntmps13,List.size_toArray,List.length_cons,List.length_nil,Nat.reduceAdd,Nat.reduceSub,Array.replicate_succ,Array.replicate_zero,List.push_toArray,List.append_toArray,List.nil_append,List.cons_append];refine wpIn_wide.2 ?_;by_cases hc:c=0
 · subst hc
   rw [if_pos rfl];obtain ⟨l,HLL⟩:∃l,Hid (inL M.now root=l):=⟨_,rfl⟩;rw [HLL.out];go_wp2_with fail
   rw [hw1];refine CN.out.mono ?_;rintro e2 w2 ⟨rfl,hb2⟩;have B2:Hid (Below w.heap.size w w2):=B1.out.trans (hb2.mono B1.out.size);have HL2:Hid (Has w2 w.heap.size 30 #[v]):=HL1.out.kept hb2 HL1.out.inside;have HF2:Hid (Has w2 (w.heap.size+1) 39 #[.slice none 0 0,.slice none 0 0,.slice none 0 0,.slice none 0 0]):=HF1.out.kept hb2 HF1.out.inside;have S2:Hid (w.heap.size+2≤w2.heap.size):=by show _≤_;rw [←S1.out];exact hb2.size
   clear hb2 hw1;have CE:=hid (fun W=>weach_any p root W)
   go_wp2_with fail
   refine (CE.out _).mono ?_;rintro e4 w4 ⟨rfl,hw4⟩;go_wp2;rw [←hw4];have b24:Below w2.heap.size w2 w4:=by rw [hw4];exact ((((Below.refl _ _).alloc (Nat.le_refl _) _).alloc (by simp) _).alloc (by simp;omega) _).alloc (by simp;omega) _
   have s4:w4.heap.size=w2.heap.size+4:=by rw [hw4];simp
   have F4:Has w4 w2.heap.size 39 #[.slice none 0 0,.slice none 0 0,.slice none 0 0,.slice none 0 0]:=by rw [hw4];exact (((Has.fresh w2 _ _).more _).more _).more _
   have O4:Has w4 (w2.heap.size+1) 9 #[kS []]:=by rw [hw4];exact ((Has.fresh' _ _ _ (by simp)).more _).more _
   have D4:Has w4 (w2.heap.size+1+1) 26 #[.pointer (some ⟨p,0,none⟩)]:=by rw [hw4];exact (Has.fresh' _ _ _ (by simp)).more _
   have R4:Has w4 (w2.heap.size+1+1+1) 9 #[kS root]:=by rw [hw4];exact Has.fresh' _ _ _ (by simp)
   clear hw4;have B4:Hid (Below w.heap.size w w4):=B2.out.trans (b24.mono B2.out.size);have hs2:=S2.out;have hmr:mayB root=true:=by
    cases e:mayB root with
    | true=>rfl
    | false=>have:=HC.out;unfold rootE at this;rw [e] at this;simp at this
   have hrl:root.length≤4000:=by have:=(may_parts hmr).1;omega
   have hl:=HLL.out;have HWT:Hid (WFT M.room l):=by rw [←hl];exact in_wft H.out.good.w1 root
   have HRM:Hid (M.room≤1048576):=by obtain ⟨_,_,_,_,h'⟩:=H.out;exact h'.r1
   have HLEN:Hid (l.length≤100000):=by
    obtain ⟨m1,m2,sv,vs,h'⟩:=H.out;have e1:=h'.tr1.len;have e2:=len_in M.now root;rw [hl] at e2;show _≤_;omega
   have ST:=each_stops 8 (by omega) (H.out.on B4.out) (HG.out.kept B4.out) root hrl _ _ D4 R4 l hl
   have S0:WSt w w4 w4.heap.size w.heap.size (w.heap.size+1) w2.heap.size (w2.heap.size+1) v [] (lsOf noF) [] (.slice none 0 0) (fun _=>.slice none 0 0) :=
    ⟨F4,O4,HL2.out.kept b24 HL2.out.inside,HF2.out.kept b24 HF2.out.inside,RecR.nil _ _,fun k _ _=>StrR.none _ _ k,(fun j k _ _ _ _ _ b h=>by cases h),B4.out,⟨Nat.le_refl _,by omega⟩,(by omega),⟨by omega,by omega⟩,⟨by omega,by omega⟩,Nat.le_refl _⟩
   have HSZ:=hid s4;clear b24 F4 O4 D4 R4 hmr hrl hl s4;refine (wpIn_wide (n:=9)).1 ?_;refine wpIn_rangeFunc_ownH (F:=Fence.wide) (n:=9) rfl (by omega) (gf:=66) (lb:=#[.pointer (some ⟨w2.heap.size+1+1,0,none⟩),.pointer (some ⟨w2.heap.size+1+1+1,0,none⟩)]) rfl trivial (enters_of Tryz.func66 (by kernel_rfl) rfl)
    ST KpE.trans (fun W il o o' h1 h2 h3 h4=>KpE.putObj _ W il o o' h1 h2 h3 h4) (Below.refl _ _) (fun _=>rfl)
    (fun pre W=>∃vi vs,WSt w W w4.heap.size w.heap.size (w.heap.size+1) w2.heap.size (w2.heap.size+1) v (walkS (igB lo) (plainX pre)).1.items (lsOf (walkS (igB lo) (plainX pre)).1) (walkS (igB lo) (plainX pre)).2 vi vs)
    (fun _ _ _=>False) ?hI (fun _ _ _ _ _ hs _ _=>hs) ⟨_,_,S0⟩
    (fun x a' W=>∃b12,Has W b12 71 #[.int .i64 x.1.2.kind,kS x.1.2.data,kS x.1.2.target,.int .i64 x.1.2.time]∧a' = { tmps:=#[.pointer (some ⟨p,0,none⟩),kS root,v,undef,undef,.pointer (some ⟨w.heap.size,0,none⟩),.pointer (some ⟨w.heap.size+1,0,none⟩),.int .i64 0,.int .i64 0,.pointer (some ⟨w2.heap.size,0,none⟩),.pointer (some ⟨w2.heap.size+1,0,none⟩),kS x.1.1,.pointer (some ⟨b12,0,none⟩),.pointer (some ⟨p,0,none⟩),kS root,.int .i64 0,.int .i64 0,.bool false,undef,undef,.pointer (some ⟨p,0,none⟩),kS root,.func (.func 66) #[] #[.pointer (some ⟨w2.heap.size+1+1,0,none⟩),.pointer (some ⟨w2.heap.size+1+1+1,0,none⟩)],kS x.1.1,.agg #[.int .i64 x.1.2.kind,kS x.1.2.data,kS x.1.2.target,.int .i64 x.1.2.time],undef,undef,undef,undef,undef,undef,undef,undef,undef,undef,undef,undef,undef,undef,undef,undef,undef,undef,undef,undef,undef,undef,undef,undef,undef,undef,undef,undef,undef,undef,undef,undef,undef,undef,undef,undef,undef,undef,undef,undef,undef,undef,undef,undef,undef,undef,undef],defers:=[] }) ?hAx ?assign ?body ?done ?stop
   case hI =>
    rintro pre W W' row ⟨vi,vs,hS⟩ hg hr;refine ⟨vi,vs,hS.kq (Kq.of_own hg (fun r e=>(hr r e).2)) (hS.bl.grown hg hS.bl.size (fun r e=>?_)) hg.size⟩
    have:=(hr r e).1;have:=B4.out.size;omega
   case hAx =>
    rintro x a' u W W' row ⟨b12,hN,ha⟩ hg hr;exact ⟨b12,hN.kq (Kq.of_own hg (fun r e=>(hr r e).2)),ha⟩
   case assign =>
    rintro il pre ⟨⟨q,⟨kd,dt,tg,tm⟩⟩,hx⟩ W K ⟨vi,vs,hS⟩ hK;dsimp only [encX,nodeV];have hb:Below W.heap.size W (W.alloc (.cells #[.int .i64 kd,kS dt,kS tg,.int .i64 tm] 71)):=(Below.refl _ _).alloc (Nat.le_refl _) _;gi_wp2;exact hK _ _ ((KeepsOthers.alloc _ _).from _) (KpE.of_below hb) ⟨vi,vs,hS.on hb⟩ ⟨W.heap.size,Has.fresh _ _ _,rfl⟩
   case done =>
    rintro D ys W hD hys ⟨vi,vs,hS⟩ hK;have HE:Hid (walkF (igB lo) l=(walkS (igB lo) (plainX ys)).1):=by show _=_;rw [hys];rfl
    obtain ⟨⟨A1,c1,f1⟩,hf⟩:=hS.forms;obtain ⟨A2,c2,f2⟩:=hf 1 (by omega) (by omega)
    obtain ⟨A3,c3,f3⟩:=hf 2 (by omega) (by omega)
    obtain ⟨A4,c4,f4⟩:=hf 3 (by omega) (by omega)
    have HS:=hid hS;obtain ⟨y1,hy1⟩:∃y,vi=y:=⟨_,rfl⟩;obtain ⟨y2,hy2⟩:∃y,vs 1=y:=⟨_,rfl⟩;obtain ⟨y3,hy3⟩:∃y,vs 2=y:=⟨_,rfl⟩;obtain ⟨y4,hy4⟩:∃y,vs 3=y:=⟨_,rfl⟩;have X9:Hid (Has W w2.heap.size 39 #[y1,y2,y3,y4]):=by rw [←hy1,←hy2,←hy3,←hy4];exact hS.f
    have X6:=hid hS.r;have o1:(#[y1,y2,y3,y4]:Array Value).all (·.oneCell')=true:=by
     rw [←hy1,←hy2,←hy3,←hy4,f1,f2,f3,f4];simp [Value.oneCell']
    have O1:=hid o1;obtain ⟨W5,hW5⟩:∃W5,W.setRow (w.heap.size+1) #[y1,y2,y3,y4]=W5:=⟨_,rfl⟩;have K5:Hid (W5.heap[D]? = some (.deferred (some []))):=by
     rw [←hW5];refine (setRow_other W (w.heap.size+1) D _ ?_).trans hK;rintro rfl;have:=X6.out;unfold Has at this;rw [hK] at this;cases this
    have Y6:Hid (Has W5 (w.heap.size+1) 39 #[y1,y2,y3,y4]):=by rw [←hW5];exact X6.out.row
    have BF:Hid (Below w.heap.size w W5):=by rw [←hW5];exact hS.bl.rowK (by omega) _
    have RR:Hid (∀b,b≠w.heap.size+1→W5.heap[b]? = W.heap[b]?):=fun b hb=>by rw [←hW5];exact setRow_other W (w.heap.size+1) b _ hb
    clear hS hf f1 f2 f3 f4 o1;go_wp2_with (first
     | (refine wpList_load_g rfl 39 (.tmp 9) rfl w2.heap.size 0 rfl #[y1,y2,y3,y4] (load_found X9.out rfl) ?_)
     | (refine wpList_store_row rfl 39 (.tmp 6) (.tmp 71) rfl (w.heap.size+1) #[y1,y2,y3,y4] rfl rfl 39 _ X6.out (by kernel_rfl) rfl O1.out ?_;rw [hW5]))
    refine ⟨by simp,.inl ⟨_,_,rfl,run_takeDeferred K5.out,?_⟩⟩
    have kq:Kq W5 (W5.putObj D (.deferred none)):=Kq.of_own (grownBy_putObj' W5 D _) (fun r e=>by cases e;exact ⟨_,K5.out,rfl⟩)
    refine ⟨_,results_found rfl _ _ (w.heap.size+1) _ rfl (Y6.out.kq kq) rfl,?_⟩;refine ⟨vi,vs,by rw [hy1,hy2,hy3,hy4];rfl,?_,?_,?_⟩
    · rw [HE.out]
      obtain ⟨ps,e1,e2,e3⟩:=HS.out.items;refine RecR.mono (B:=w4.heap.size) (RecR.kq (w:=W5) ⟨ps,e1,row_of e2 fun b hb=>RR.out b ?_,fun y hy=>⟨row_of (e3 y hy).own fun b hb=>RR.out b ?_,(e3 y hy).len⟩⟩ kq) B4.out.size
      · rintro rfl;exact apart_has e2 HS.out.r (by decide) hb
      · rintro rfl;exact apart_has (e3 y hy).own HS.out.r (by decide) hb
    · intro k h1 h2
      rw [HE.out];have e2:=HS.out.str k h1 h2;exact StrR.mono (B:=w4.heap.size) (StrR.kq (w:=W5) (row_of e2 fun b hb=>RR.out b (by rintro rfl;exact apart_has e2 HS.out.r (by decide) hb)) kq) B4.out.size
    · exact BF.out.grown (grownBy_putObj' W5 D _) BF.out.size (fun r e=>by cases e;have:=B4.out.size;omega)
   case stop=>exact fun _ _ _ _ _ _ h _=>h.elim
   case body =>
    rintro il pre ⟨⟨q,⟨kd,dt,tg,tm⟩⟩,hx⟩ a' W hil hrec ⟨vi,vs,hS⟩ ⟨b12,hN,rfl⟩ hlt;dsimp only at hN;dsimp only;obtain ⟨⟨⟨it,tmL,igL,bdL⟩,over⟩,HSW⟩:∃s,Hid (walkS (igB lo) (plainX pre)=s):=⟨_,rfl⟩;have HLN:=walkS_len (igB lo) (plainX pre);have HOV:=walkS_over (igB lo) (plainX pre);rw [HSW.out] at hS HLN HOV;dsimp only at hS HLN HOV;obtain ⟨⟨A0,c0,fv⟩,_⟩:=hS.forms;subst fv;have HNX:Hid (∀s',stepW (igB lo) (⟨it,tmL,igL,bdL⟩,over) (q,⟨kd,dt,tg,tm⟩)=s'→walkS (igB lo) (plainX (pre++[⟨(q,⟨kd,dt,tg,tm⟩),hx⟩]))=s'):=fun s' h=>by rw [plainX_snoc,walkS_snoc,HSW.out];exact h
    have hqm:=mem_may HWT.out hx;have hq1:q.length≤160:=(may_parts hqm).1;have hdl:dt.length≤1048576:=by
     have h1:=used_memN hx;have h2:=HWT.out.used;have h3:=HRM.out;dsimp only at h1;omega
    have hpl:(plainX pre).length≤100000:=by rw [plainX_len];have:=HLEN.out;omega
    have HLS:Hid (∀k,1≤k→k≤3→(lsOf ⟨it,tmL,igL,bdL⟩ k).length≤100000):=fun k h1 h2=>by
     unfold sumF at HLN;dsimp only at HLN;rcases (by omega:k=1∨k=2∨k=3) with rfl | rfl | rfl
     · show tmL.length≤_;omega
     · show igL.length≤_;omega
     · show bdL.length≤_;omega
    have HIL:Hid (it.length≤100000):=by unfold sumF at HLN;dsimp only at HLN;show _≤_;omega
    have hol:over.length≤4000:=by
     rcases HOV with e | ⟨y,hy,e⟩
     · rw [e];exact Nat.zero_le _
     · rw [←e]
       obtain ⟨z,_,rfl⟩:=List.mem_map.1 hy;have:=(may_parts (mem_may HWT.out z.2)).1;omega
    have HS:=hid hS;have HN:=hid hN;have HGW:Hid (Gd W):=HG.out.kept hS.bl;have HTW:Hid (Sha.Tab W):=HT.out.kept hS.bl HT.out.pos;have HLW:Hid (Lst W v lo):=HV.out.on hS.bl;have CW:Hid (∀X,Below W.heap.size W X→Calls Tryz.prog 51 #[kS q,kS over] X fun e w'=>e=.returned (.bool (withinB q over))∧Below X.heap.size X w'):=fun X hb=>by
     have:=within_any (ba q) (ba over) X (HGW.out.kept hb) (by rw [ba_size];omega) (by rw [ba_size];omega)
     rw [tl_ba,tl_ba] at this;exact this
    have CT:Hid (∀X,Calls Tryz.prog 33 #[kS q] X fun e w'=>e=.returned (.bool (isTempB q))∧X=w'):=fun X=>by
     have:=isTemp_any (ba q) X (by rw [ba_size];omega)
     rw [tl_ba] at this;exact this
    have CI:Hid (∀X,Below W.heap.size W X→Calls Tryz.prog 52 #[v,kS q] X fun e w'=>e=.returned (.bool (igB lo q))∧Below X.heap.size X w'):=fun X hb=>isIgnored_any (HLW.out.on hb) (HGW.out.kept hb) q (by omega)
    have CB:Hid (∀X,Calls Tryz.prog 53 #[.agg #[.int .i64 kd,kS dt,kS tg,.int .i64 tm]] X fun e w'=>e=.returned (.bool (badN ⟨kd,dt,tg,tm⟩))∧Below X.heap.size X w'):=fun X=>isBad_any ⟨kd,dt,tg,tm⟩ (by dsimp only;omega) X
    have CM:Hid (badN ⟨kd,dt,tg,tm⟩=false→∀X,Below W.heap.size W X→Calls Tryz.prog 54 #[kS q,.agg #[.int .i64 kd,kS dt,kS tg,.int .i64 tm]] X fun e w'=>∃bv,e=.returned (.agg (recN q ⟨kd,dt,tg,tm⟩ bv))∧Dgs X.heap.size w' bv (hasN ⟨kd,dt,tg,tm⟩)∧Below X.heap.size X w'):=fun hb X hX =>
     itemOf_any q ⟨kd,dt,tg,tm⟩ X (HTW.out.kept hX HTW.out.pos) (fun _=>by unfold badN at hb;simpa using hb)
    have co:W.cell? ⟨w2.heap.size+1,0,none⟩=some (kS over):=hS.o.at_ 0;have hmx:Tryz.prog.follows .mixedOrders=true:=by kernel_rfl
    clear hS hN HLN HOV hqm hq1 hdl hpl hol hrec;obtain ⟨bt,HBT⟩:∃b,Hid (isTempB q=b):=⟨_,rfl⟩;obtain ⟨bi,HBI⟩:∃b,Hid (igB lo q=b):=⟨_,rfl⟩;obtain ⟨bb,HBB⟩:∃b,Hid (badN ⟨kd,dt,tg,tm⟩=b):=⟨_,rfl⟩;obtain ⟨bw,HBW⟩:∃b,Hid (withinB q over=b):=⟨_,rfl⟩;rw [HBT.out] at CT;rw [HBI.out] at CI;rw [HBB.out] at CB CM;rw [HBW.out] at CW;by_cases ho:over=[]
    · have e1:(ba over).toList=[]:=by rw [toList_tl,tl_ba];exact ho
      have e2:(ba over).toList.isEmpty=true:=by simpa using e1
      have HSK:Hid (skipB over q=false):=by show _=_;unfold skipB;rw [ho];rfl
      have BC:Hid (Below W.heap.size W W):=Below.refl _ _;have SC:=hid HS.out;clear ho;gi_wp2_with (gi_at_call 33;fail)
      refine ⟨trivial,?_⟩
      cases bt with
      | true =>
       obtain ⟨A5,c5,W5,hr5,f5,o5,kf5,kp5,S5⟩:=SC.out.app (k:=1) (by omega) (by omega) q (HLS.out 1 (by omega) (by omega))
       obtain ⟨Ak,ck,fk⟩:=SC.out.forms.2 1 (by omega) (by omega)
       rw [fk] at hr5;have R5:=hid hr5;have KF:=hid kf5;have KP:=hid kp5;have F5:=hid f5;have O5:=hid o5;have c50:W5.cell? ⟨w2.heap.size,1,none⟩=some (vs 1):=f5.at_ 1;have c51:=f5.free 1;obtain ⟨W6,hW6⟩:∃W6,W5.setCell ⟨w2.heap.size,1,none⟩ (.slice A5 ((lsOf ⟨it,tmL,igL,bdL⟩ 1).length+1) c5)=W6:=⟨_,rfl⟩;rw [hW6] at S5;have S6:=hid S5;have cb:W.cell? ⟨w2.heap.size,1,none⟩=some (.slice Ak (lsOf ⟨it,tmL,igL,bdL⟩ 1).length ck):=by rw [←fk];exact SC.out.f.at_ 1
       clear fk;have c60:W6.cell? ⟨w2.heap.size+1,0,none⟩=some (kS over):=S6.out.o.at_ 0;have c61:=S6.out.o.free 0;have KE:Hid (KpE W5 W6):=by rw [←hW6];exact KpE.of_but F5.out (by decide) (fun j hj _=>Below.heap_setCell W5 ⟨w2.heap.size,1,none⟩ _ j hj)
       have KG:Hid (KeepsFrom w4.heap.size W5 W6):=by rw [←hW6];exact (KeepsOthers.setCell _ _ _).from _
       have HST:=hid (step_temp (ig:=igB lo) (f:=⟨it,tmL,igL,bdL⟩) (n:=⟨kd,dt,tg,tm⟩) HSK.out HBT.out);clear hr5 f5 o5 kf5 kp5 S5;gi_wp2_with (first
        | (refine ⟨trivial,?_⟩
           gi_at_call 33
           refine (CallsIn.inRound il (callsIn_wide.2 (CT.out _))).mono ?_;rintro e6 Wx ⟨rfl,rfl⟩)
        | (gi_at_builtin
           refine listIn_append rfl (.tmp 45) (.tmp 47) 34 34 rfl ⟨_,_,R5.out,?_⟩))
       have KO:Hid (KpE W6 (W6.setCell ⟨w2.heap.size+1,0,none⟩ (kS q))):=KpE.of_but S6.out.o (by decide) (fun j hj _=>Below.heap_setCell W6 ⟨w2.heap.size+1,0,none⟩ _ j hj)
       refine ⟨((((KeepsFrom.of_grownBy (grown_none BC.out) (fun _ e=>by cases e)).trans KF.out)).trans KG.out).trans ((KeepsOthers.setCell _ _ _).from _),((((KpE.of_below BC.out).trans KP.out).trans KE.out).trans KO.out),(.slice A0 it.length c0),(updV vs 1 (.slice A5 ((lsOf ⟨it,tmL,igL,bdL⟩ 1).length+1) c5)),?_⟩
       rw [HNX.out _ HST.out];dsimp only;rw [ls_up1];exact S6.out.setO q
      | false =>
       have ci:W.cell? ⟨w.heap.size,0,none⟩=some v:=SC.out.l.at_ 0
       cases bi with
       | true =>
        gi_wp2_with (first
         | (refine ⟨trivial,?_⟩
            gi_at_call 33
            refine (CallsIn.inRound il (callsIn_wide.2 (CT.out _))).mono ?_;rintro e6 Wx ⟨rfl,rfl⟩)
         | (refine ⟨trivial,?_⟩
            gi_at_call 52
            refine (CallsIn.inRound il (callsIn_wide.2 (CI.out _ BC.out))).mono ?_;rintro e7 Wd ⟨rfl,hb7⟩;have BD0:Hid (Below W.heap.size W Wd):=BC.out.trans (hb7.mono BC.out.size);have SD:=hid (SC.out.on hb7);clear hb7;obtain ⟨A5,c5,W5,hr5,f5,o5,kf5,kp5,S5⟩:=SD.out.app (k:=2) (by omega) (by omega) q (HLS.out 2 (by omega) (by omega))
            obtain ⟨Ak,ck,fk⟩:=SD.out.forms.2 2 (by omega) (by omega)
            rw [fk] at hr5;have R5:=hid hr5;have KF:=hid kf5;have KP:=hid kp5;have F5:=hid f5;have O5:=hid o5;have c50:W5.cell? ⟨w2.heap.size,2,none⟩=some (vs 2):=f5.at_ 2;have c51:=f5.free 2;obtain ⟨W6,hW6⟩:∃W6,W5.setCell ⟨w2.heap.size,2,none⟩ (.slice A5 ((lsOf ⟨it,tmL,igL,bdL⟩ 2).length+1) c5)=W6:=⟨_,rfl⟩;rw [hW6] at S5;have S6:=hid S5;have cb:Wd.cell? ⟨w2.heap.size,2,none⟩=some (.slice Ak (lsOf ⟨it,tmL,igL,bdL⟩ 2).length ck):=by rw [←fk];exact SD.out.f.at_ 2
            clear fk;have c60:W6.cell? ⟨w2.heap.size+1,0,none⟩=some (kS over):=S6.out.o.at_ 0;have c61:=S6.out.o.free 0;have KE:Hid (KpE W5 W6):=by rw [←hW6];exact KpE.of_but F5.out (by decide) (fun j hj _=>Below.heap_setCell W5 ⟨w2.heap.size,2,none⟩ _ j hj)
            have KG:Hid (KeepsFrom w4.heap.size W5 W6):=by rw [←hW6];exact (KeepsOthers.setCell _ _ _).from _
            have HST:=hid (step_ign (ig:=igB lo) (f:=⟨it,tmL,igL,bdL⟩) (n:=⟨kd,dt,tg,tm⟩) HSK.out HBT.out HBI.out);clear hr5 f5 o5 kf5 kp5 S5)
         | (gi_at_builtin
            refine listIn_append rfl (.tmp 56) (.tmp 58) 34 34 rfl ⟨_,_,R5.out,?_⟩))
        have KO:Hid (KpE W6 (W6.setCell ⟨w2.heap.size+1,0,none⟩ (kS q))):=KpE.of_but S6.out.o (by decide) (fun j hj _=>Below.heap_setCell W6 ⟨w2.heap.size+1,0,none⟩ _ j hj)
        refine ⟨((((KeepsFrom.of_grownBy (grown_none BD0.out) (fun _ e=>by cases e)).trans KF.out)).trans KG.out).trans ((KeepsOthers.setCell _ _ _).from _),((((KpE.of_below BD0.out).trans KP.out).trans KE.out).trans KO.out),(.slice A0 it.length c0),(updV vs 2 (.slice A5 ((lsOf ⟨it,tmL,igL,bdL⟩ 2).length+1) c5)),?_⟩
        rw [HNX.out _ HST.out];dsimp only;rw [ls_up2];exact S6.out.setO q
       | false =>
        cases bb with
        | true =>
         gi_wp2_with (first
          | (refine ⟨trivial,?_⟩
             gi_at_call 33
             refine (CallsIn.inRound il (callsIn_wide.2 (CT.out _))).mono ?_;rintro e6 Wx ⟨rfl,rfl⟩)
          | (refine ⟨trivial,?_⟩
             gi_at_call 52
             refine (CallsIn.inRound il (callsIn_wide.2 (CI.out _ BC.out))).mono ?_;rintro e7 Wd ⟨rfl,hb7⟩;have BD0:Hid (Below W.heap.size W Wd):=BC.out.trans (hb7.mono BC.out.size);have SD:=hid (SC.out.on hb7);clear hb7;have ND:Hid (Has Wd b12 71 #[.int .i64 kd,kS dt,kS tg,.int .i64 tm]):=HN.out.kept BD0.out HN.out.inside)
          | (refine listIn_load rfl 71 (.tmp 12) rfl b12 0 rfl #[.int .i64 kd,kS dt,kS tg,.int .i64 tm] (load_nodeC ND.out) ?_)
          | (refine ⟨trivial,?_⟩
             gi_at_call 53
             refine (CallsIn.inRound il (callsIn_wide.2 (CB.out _))).mono ?_;rintro e8 We ⟨rfl,hb8⟩;have BE:Hid (Below W.heap.size W We):=BD0.out.trans (hb8.mono BD0.out.size);have SE:=hid (SD.out.on hb8);clear hb8;obtain ⟨A5,c5,W5,hr5,f5,o5,kf5,kp5,S5⟩:=SE.out.app (k:=3) (by omega) (by omega) q (HLS.out 3 (by omega) (by omega))
             obtain ⟨Ak,ck,fk⟩:=SE.out.forms.2 3 (by omega) (by omega)
             rw [fk] at hr5;have R5:=hid hr5;have KF:=hid kf5;have KP:=hid kp5;have F5:=hid f5;have O5:=hid o5;have c50:W5.cell? ⟨w2.heap.size,3,none⟩=some (vs 3):=f5.at_ 3;have c51:=f5.free 3;obtain ⟨W6,hW6⟩:∃W6,W5.setCell ⟨w2.heap.size,3,none⟩ (.slice A5 ((lsOf ⟨it,tmL,igL,bdL⟩ 3).length+1) c5)=W6:=⟨_,rfl⟩;rw [hW6] at S5;have S6:=hid S5;have cb:We.cell? ⟨w2.heap.size,3,none⟩=some (.slice Ak (lsOf ⟨it,tmL,igL,bdL⟩ 3).length ck):=by rw [←fk];exact SE.out.f.at_ 3
             clear fk;have KE:Hid (KpE W5 W6):=by rw [←hW6];exact KpE.of_but F5.out (by decide) (fun j hj _=>Below.heap_setCell W5 ⟨w2.heap.size,3,none⟩ _ j hj)
             have KG:Hid (KeepsFrom w4.heap.size W5 W6):=by rw [←hW6];exact (KeepsOthers.setCell _ _ _).from _
             have HST:=hid (step_bad (ig:=igB lo) (f:=⟨it,tmL,igL,bdL⟩) (n:=⟨kd,dt,tg,tm⟩) HSK.out HBT.out HBI.out HBB.out);clear hr5 f5 o5 kf5 kp5 S5)
          | (gi_at_builtin
             refine listIn_append rfl (.tmp 66) (.tmp 68) 34 34 rfl ⟨_,_,R5.out,?_⟩))
         refine ⟨(((KeepsFrom.of_grownBy (grown_none BE.out) (fun _ e=>by cases e)).trans KF.out).trans KG.out),(((KpE.of_below BE.out).trans KP.out).trans KE.out),(.slice A0 it.length c0),(updV vs 3 (.slice A5 ((lsOf ⟨it,tmL,igL,bdL⟩ 3).length+1) c5)),?_⟩
         rw [HNX.out _ HST.out];dsimp only;rw [ls_up3];exact S6.out
        | false =>
         gi_wp2_with (first
          | (refine ⟨trivial,?_⟩
             gi_at_call 33
             refine (CallsIn.inRound il (callsIn_wide.2 (CT.out _))).mono ?_;rintro e6 Wx ⟨rfl,rfl⟩)
          | (refine ⟨trivial,?_⟩
             gi_at_call 52
             refine (CallsIn.inRound il (callsIn_wide.2 (CI.out _ BC.out))).mono ?_;rintro e7 Wd ⟨rfl,hb7⟩;have BD0:Hid (Below W.heap.size W Wd):=BC.out.trans (hb7.mono BC.out.size);have SD:=hid (SC.out.on hb7);clear hb7;have ND:Hid (Has Wd b12 71 #[.int .i64 kd,kS dt,kS tg,.int .i64 tm]):=HN.out.kept BD0.out HN.out.inside)
          | (refine listIn_load rfl 71 (.tmp 12) rfl b12 0 rfl #[.int .i64 kd,kS dt,kS tg,.int .i64 tm] (load_nodeC ND.out) ?_)
          | (refine ⟨trivial,?_⟩
             gi_at_call 53
             refine (CallsIn.inRound il (callsIn_wide.2 (CB.out _))).mono ?_;rintro e8 We ⟨rfl,hb8⟩;have BE:Hid (Below W.heap.size W We):=BD0.out.trans (hb8.mono BD0.out.size);have SE:=hid (SD.out.on hb8);clear hb8))
         have HST:=hid (step_item (ig:=igB lo) (f:=⟨it,tmL,igL,bdL⟩) (n:=⟨kd,dt,tg,tm⟩) HSK.out HBT.out HBI.out HBB.out);obtain ⟨Wf,hWf⟩:∃Wf,We.drew=Wf:=⟨_,rfl⟩;have bf:Below We.heap.size We Wf:=hWf▸(Below.refl _ _).drew;have BF:Hid (Below W.heap.size W Wf):=BE.out.trans (bf.mono BE.out.size);have SF:=hid (SE.out.on bf);have NF9:Has Wf b12 71 #[.int .i64 kd,kS dt,kS tg,.int .i64 tm]:=HN.out.kept BF.out HN.out.inside;clear bf SE BE;refine region_round (S:=fun X=>Has X b12 71 #[.int .i64 kd,kS dt,kS tg,.int .i64 tm]) hmx (by kernel_rfl) (by rw [hWf];exact NF9) (fun hS=>?_)
         clear hS;rw [hWf];refine tkH 0 (v:=?_) (by simp only [lkA,lkB];rfl) (by kernel_rfl) (fun _ _ _ h=>h) (by rfl) (by assumption) ?_ ?_
         rotate_left 1
         · intro w hSw
           go_simp
           with_reducible rfl
         simp only [Act.put,siA,siB,siC];refine tkH 2 (v:=?_) (by simp only [lkA,lkB,lkC];rfl) (by kernel_rfl) (fun _ _ _ h=>h) (by rfl) (by assumption) ?_ ?_
         rotate_left 1
         · intro w hSw
           go_simp
           with_reducible rfl
         simp only [Act.put,siA,siB,siC];refine' wpAnyH_take (i:=3) (v:=_) (by simp only [lkA,lkB,lkC];rfl) (by kernel_rfl) (by kernel_rfl) (by kernel_rfl) (fun _ _ _ h=>h) (yields_loadA (by rfl) 71 (.tmp 12) rfl b12 0 rfl #[.int .i64 kd,kS dt,kS tg,.int .i64 tm] (fun X hSX=>load_nodeC hSX)) (by assumption) ?_
         simp only [Act.put,siA,siB,siC];have NH:=hid NF9;clear NF9;refine wpAnyH_ready (rs:=[1,4]) (by kernel_rfl) (by simp) ?_
         refine AllReadyH.cons (by simp only [lkA,lkB,lkC];rfl) (fun K hK=>?_) (AllReadyH.cons (by simp only [lkA,lkB,lkC];rfl) (fun K hK=>?_) (AllReadyH.nil))
         · have c1:=(SF.out.f).at_ 0
           go_simp;refine hK.out _ _ NH.out (fun hS=>?_)
           clear hK K hS c1;refine wpAnyH_ready (rs:=[4]) (by kernel_rfl) (by simp) ?_
           refine AllReadyH.cons (by simp only [lkA,lkB,lkC];rfl) (fun K hK=>?_) (AllReadyH.nil)
           go_simp;refine (CM.out trivial _ BF.out).mono ?_;rintro e9 Wg ⟨bv,rfl,hdg,hbg⟩;have BG:Hid (Below W.heap.size W Wg):=BF.out.trans (hbg.mono BF.out.size);have SG:=hid (SF.out.on hbg);have NG:Hid (Has Wg b12 71 #[.int .i64 kd,kS dt,kS tg,.int .i64 tm]):=NH.out.kept hbg NH.out.inside;have hdb:Dgs w4.heap.size Wg bv (hasN ⟨kd,dt,tg,tm⟩):=hdg.mono (Nat.le_trans HS.out.hB BF.out.size);obtain ⟨A5,c5,W5,hr5,f5,kf5,kp5,kn5,S5⟩:=SG.out.appI (q,⟨kd,dt,tg,tm⟩) bv hdb HIL.out;have R5:=hid hr5;have KF:=hid kf5;have KP:=hid kp5;have F5:=hid f5;obtain ⟨cs,hcs⟩:∃cs,recN q ⟨kd,dt,tg,tm⟩ bv=cs:=⟨_,rfl⟩;have HSC:Hid (cs.size=27):=by rw [←hcs];rfl
           dsimp only at R5;rw [hcs] at R5 ⊢;obtain ⟨W6,hW6⟩:∃W6,W5.setCell ⟨w2.heap.size,0,none⟩ (.slice A5 (it.length+1) c5)=W6:=⟨_,rfl⟩;rw [hW6] at S5;have S6:=hid S5;have KE:Hid (KpE W5 W6):=by rw [←hW6];exact KpE.of_but F5.out (by decide) (fun j hj _=>Below.heap_setCell W5 ⟨w2.heap.size,0,none⟩ _ j hj)
           have KG:Hid (KeepsFrom w4.heap.size W5 W6):=by rw [←hW6];exact (KeepsOthers.setCell _ _ _).from _
           have N5:Hid (Has W5 b12 71 #[.int .i64 kd,kS dt,kS tg,.int .i64 tm]):=kn5 _ _ _ NG.out (by decide)
           have N6:Hid (Has W6 b12 71 #[.int .i64 kd,kS dt,kS tg,.int .i64 tm]):=by rw [←hW6];exact N5.out.other (has_ne N5.out F5.out (by decide)) _
           clear hdg hbg hdb hr5 f5 kf5 kp5 kn5 S5 hcs;refine hK.out _ _ NG.out (fun hS=>?_)
           clear hK K hS;refine wpAnyH_ready (rs:=[5]) (by kernel_rfl) (by simp) ?_
           refine AllReadyH.cons (by simp only [lkA,lkB,lkC];rfl) (fun K hK=>?_) (AllReadyH.nil)
           refine step_build_rec (by rfl) (.tmp 29) rfl cs HSC.out rfl ?_
           refine hK.out _ _ (NG.out.more _) (fun hS=>?_)
           clear hK K hS;refine wpAnyH_ready (rs:=[6]) (by kernel_rfl) (by simp) ?_
           refine AllReadyH.cons (by simp only [lkA,lkB,lkC];rfl) (fun K hK=>?_) (AllReadyH.nil)
           refine step_append_run (by rfl) (.tmp 26) (.tmp 30) 37 37 rfl (.slice A0 it.length c0) (.slice (some ⟨Wg.heap.size,0,none⟩) 1 1) rfl rfl R5.out ?_
           have hs5:=N5.out;refine hK.out _ _ hs5 (fun hS=>?_)
           clear hK K hS;refine tkH 7 (v:=?_) (by simp only [lkA,lkB,lkC];rfl) (by kernel_rfl) (fun _ _ _ h=>h) (by rfl) (by assumption) ?_ ?_
           rotate_left 1
           · intro w hSw
             go_simp
             with_reducible rfl
           simp only [Act.put,siA,siB,siC];clear hs5;refine wpAnyH_ready (rs:=[8]) (by kernel_rfl) (by simp) ?_
           refine AllReadyH.cons (by simp only [lkA,lkB,lkC];rfl) (fun K hK=>?_) (AllReadyH.nil)
           have hc:=F5.out.at_ 0;have hf:=F5.out.free 0;go_simp;try rw [hW6]
           refine hK.out _ _ N6.out (fun hS=>?_)
           clear hK K hS hc hf;refine wpAnyH_done (by kernel_rfl) ?_ _
           refine OnlyN.normal ?_;gi_wp2;refine ⟨(((KeepsFrom.of_grownBy (grown_none BG.out) (fun _ e=>by cases e)).trans KF.out).trans KG.out),(((KpE.of_below BG.out).trans KP.out).trans KE.out),.slice A5 (it.length+1) c5,vs,?_⟩
           rw [HNX.out _ HST.out];dsimp only;exact S6.out
         · go_simp
           refine (CM.out trivial _ BF.out).mono ?_;rintro e9 Wg ⟨bv,rfl,hdg,hbg⟩;have BG:Hid (Below W.heap.size W Wg):=BF.out.trans (hbg.mono BF.out.size);have SG:=hid (SF.out.on hbg);have NG:Hid (Has Wg b12 71 #[.int .i64 kd,kS dt,kS tg,.int .i64 tm]):=NH.out.kept hbg NH.out.inside;have hdb:Dgs w4.heap.size Wg bv (hasN ⟨kd,dt,tg,tm⟩):=hdg.mono (Nat.le_trans HS.out.hB BF.out.size);obtain ⟨A5,c5,W5,hr5,f5,kf5,kp5,kn5,S5⟩:=SG.out.appI (q,⟨kd,dt,tg,tm⟩) bv hdb HIL.out;have R5:=hid hr5;have KF:=hid kf5;have KP:=hid kp5;have F5:=hid f5;obtain ⟨cs,hcs⟩:∃cs,recN q ⟨kd,dt,tg,tm⟩ bv=cs:=⟨_,rfl⟩;have HSC:Hid (cs.size=27):=by rw [←hcs];rfl
           dsimp only at R5;rw [hcs] at R5 ⊢;obtain ⟨W6,hW6⟩:∃W6,W5.setCell ⟨w2.heap.size,0,none⟩ (.slice A5 (it.length+1) c5)=W6:=⟨_,rfl⟩;rw [hW6] at S5;have S6:=hid S5;have KE:Hid (KpE W5 W6):=by rw [←hW6];exact KpE.of_but F5.out (by decide) (fun j hj _=>Below.heap_setCell W5 ⟨w2.heap.size,0,none⟩ _ j hj)
           have KG:Hid (KeepsFrom w4.heap.size W5 W6):=by rw [←hW6];exact (KeepsOthers.setCell _ _ _).from _
           have N5:Hid (Has W5 b12 71 #[.int .i64 kd,kS dt,kS tg,.int .i64 tm]):=kn5 _ _ _ NG.out (by decide)
           have N6:Hid (Has W6 b12 71 #[.int .i64 kd,kS dt,kS tg,.int .i64 tm]):=by rw [←hW6];exact N5.out.other (has_ne N5.out F5.out (by decide)) _
           clear hdg hbg hdb hr5 f5 kf5 kp5 kn5 S5 hcs;refine hK.out _ _ NG.out (fun hS=>?_)
           clear hK K hS;refine wpAnyH_ready (rs:=[1,5]) (by kernel_rfl) (by simp) ?_
           refine AllReadyH.cons (by simp only [lkA,lkB,lkC];rfl) (fun K hK=>?_) (AllReadyH.cons (by simp only [lkA,lkB,lkC];rfl) (fun K hK=>?_) (AllReadyH.nil))
           · have c1:=(SG.out.f).at_ 0
             go_simp;refine hK.out _ _ NG.out (fun hS=>?_)
             clear hK K hS c1;refine wpAnyH_ready (rs:=[5]) (by kernel_rfl) (by simp) ?_
             refine AllReadyH.cons (by simp only [lkA,lkB,lkC];rfl) (fun K hK=>?_) (AllReadyH.nil)
             refine step_build_rec (by rfl) (.tmp 29) rfl cs HSC.out rfl ?_
             refine hK.out _ _ (NG.out.more _) (fun hS=>?_)
             clear hK K hS;refine wpAnyH_ready (rs:=[6]) (by kernel_rfl) (by simp) ?_
             refine AllReadyH.cons (by simp only [lkA,lkB,lkC];rfl) (fun K hK=>?_) (AllReadyH.nil)
             refine step_append_run (by rfl) (.tmp 26) (.tmp 30) 37 37 rfl (.slice A0 it.length c0) (.slice (some ⟨Wg.heap.size,0,none⟩) 1 1) rfl rfl R5.out ?_
             have hs5:=N5.out;refine hK.out _ _ hs5 (fun hS=>?_)
             clear hK K hS;refine tkH 7 (v:=?_) (by simp only [lkA,lkB,lkC];rfl) (by kernel_rfl) (fun _ _ _ h=>h) (by rfl) (by assumption) ?_ ?_
             rotate_left 1
             · intro w hSw
               go_simp
               with_reducible rfl
             simp only [Act.put,siA,siB,siC];clear hs5;refine wpAnyH_ready (rs:=[8]) (by kernel_rfl) (by simp) ?_
             refine AllReadyH.cons (by simp only [lkA,lkB,lkC];rfl) (fun K hK=>?_) (AllReadyH.nil)
             have hc:=F5.out.at_ 0;have hf:=F5.out.free 0;go_simp;try rw [hW6]
             refine hK.out _ _ N6.out (fun hS=>?_)
             clear hK K hS hc hf;refine wpAnyH_done (by kernel_rfl) ?_ _
             refine OnlyN.normal ?_;gi_wp2;refine ⟨(((KeepsFrom.of_grownBy (grown_none BG.out) (fun _ e=>by cases e)).trans KF.out).trans KG.out),(((KpE.of_below BG.out).trans KP.out).trans KE.out),.slice A5 (it.length+1) c5,vs,?_⟩
             rw [HNX.out _ HST.out];dsimp only;exact S6.out
           · refine step_build_rec (by rfl) (.tmp 29) rfl cs HSC.out rfl ?_
             refine hK.out _ _ (NG.out.more _) (fun hS=>?_)
             clear hK K hS;refine wpAnyH_ready (rs:=[1]) (by kernel_rfl) (by simp) ?_
             refine AllReadyH.cons (by simp only [lkA,lkB,lkC];rfl) (fun K hK=>?_) (AllReadyH.nil)
             have c1:=(SG.out.f.more (.cells cs 58)).at_ 0;go_simp;refine hK.out _ _ (NG.out.more _) (fun hS=>?_)
             clear hK K hS c1;refine wpAnyH_ready (rs:=[6]) (by kernel_rfl) (by simp) ?_
             refine AllReadyH.cons (by simp only [lkA,lkB,lkC];rfl) (fun K hK=>?_) (AllReadyH.nil)
             refine step_append_run (by rfl) (.tmp 26) (.tmp 30) 37 37 rfl (.slice A0 it.length c0) (.slice (some ⟨Wg.heap.size,0,none⟩) 1 1) rfl rfl R5.out ?_
             have hs5:=N5.out;refine hK.out _ _ hs5 (fun hS=>?_)
             clear hK K hS;refine tkH 7 (v:=?_) (by simp only [lkA,lkB,lkC];rfl) (by kernel_rfl) (fun _ _ _ h=>h) (by rfl) (by assumption) ?_ ?_
             rotate_left 1
             · intro w hSw
               go_simp
               with_reducible rfl
             simp only [Act.put,siA,siB,siC];clear hs5;refine wpAnyH_ready (rs:=[8]) (by kernel_rfl) (by simp) ?_
             refine AllReadyH.cons (by simp only [lkA,lkB,lkC];rfl) (fun K hK=>?_) (AllReadyH.nil)
             have hc:=F5.out.at_ 0;have hf:=F5.out.free 0;go_simp;try rw [hW6]
             refine hK.out _ _ N6.out (fun hS=>?_)
             clear hK K hS hc hf;refine wpAnyH_done (by kernel_rfl) ?_ _
             refine OnlyN.normal ?_;gi_wp2;refine ⟨(((KeepsFrom.of_grownBy (grown_none BG.out) (fun _ e=>by cases e)).trans KF.out).trans KG.out),(((KpE.of_below BG.out).trans KP.out).trans KE.out),.slice A5 (it.length+1) c5,vs,?_⟩
             rw [HNX.out _ HST.out];dsimp only;exact S6.out
    · have e1:¬(ba over).toList=[]:=by rw [toList_tl,tl_ba];exact ho
      have e2:(ba over).toList.isEmpty=false:=by simpa using e1
      have HSB:Hid (skipB over q=bw):=by show _=_;unfold skipB;rw [decide_eq_false ho,HBW.out];rfl
      clear ho
      cases bw with
      | true =>
       gi_wp2_with (refine ⟨trivial,?_⟩;gi_at_call 51;refine (CallsIn.inRound il (callsIn_wide.2 (CW.out _ (Below.refl _ _)))).mono ?_;rintro e5 Wc ⟨rfl,hb5⟩)
       refine ⟨KeepsFrom.of_grownBy (grown_none hb5) (fun _ e=>by cases e),KpE.of_below hb5,(.slice A0 it.length c0),vs,?_⟩
       rw [HNX.out _ (step_skip HSB.out)];exact HS.out.on hb5
      | false =>
       gi_wp2;refine ⟨trivial,?_⟩;gi_at_call 51
       refine (CallsIn.inRound il (callsIn_wide.2 (CW.out _ (Below.refl _ _)))).mono ?_;rintro e5 Wc ⟨rfl,hb5⟩;have BC:Hid (Below W.heap.size W Wc):=hb5;have SC:=hid (HS.out.on hb5);have HSK:=HSB;clear hb5
       cases bt with
       | true =>
        obtain ⟨A5,c5,W5,hr5,f5,o5,kf5,kp5,S5⟩:=SC.out.app (k:=1) (by omega) (by omega) q (HLS.out 1 (by omega) (by omega))
        obtain ⟨Ak,ck,fk⟩:=SC.out.forms.2 1 (by omega) (by omega)
        rw [fk] at hr5;have R5:=hid hr5;have KF:=hid kf5;have KP:=hid kp5;have F5:=hid f5;have O5:=hid o5;have c50:W5.cell? ⟨w2.heap.size,1,none⟩=some (vs 1):=f5.at_ 1;have c51:=f5.free 1;obtain ⟨W6,hW6⟩:∃W6,W5.setCell ⟨w2.heap.size,1,none⟩ (.slice A5 ((lsOf ⟨it,tmL,igL,bdL⟩ 1).length+1) c5)=W6:=⟨_,rfl⟩;rw [hW6] at S5;have S6:=hid S5;have cb:Wc.cell? ⟨w2.heap.size,1,none⟩=some (.slice Ak (lsOf ⟨it,tmL,igL,bdL⟩ 1).length ck):=by rw [←fk];exact SC.out.f.at_ 1
        clear fk;have c60:W6.cell? ⟨w2.heap.size+1,0,none⟩=some (kS over):=S6.out.o.at_ 0;have c61:=S6.out.o.free 0;have KE:Hid (KpE W5 W6):=by rw [←hW6];exact KpE.of_but F5.out (by decide) (fun j hj _=>Below.heap_setCell W5 ⟨w2.heap.size,1,none⟩ _ j hj)
        have KG:Hid (KeepsFrom w4.heap.size W5 W6):=by rw [←hW6];exact (KeepsOthers.setCell _ _ _).from _
        have HST:=hid (step_temp (ig:=igB lo) (f:=⟨it,tmL,igL,bdL⟩) (n:=⟨kd,dt,tg,tm⟩) HSK.out HBT.out);clear hr5 f5 o5 kf5 kp5 S5;gi_wp2_with (first
         | (refine ⟨trivial,?_⟩
            gi_at_call 33
            refine (CallsIn.inRound il (callsIn_wide.2 (CT.out _))).mono ?_;rintro e6 Wx ⟨rfl,rfl⟩)
         | (gi_at_builtin
            refine listIn_append rfl (.tmp 45) (.tmp 47) 34 34 rfl ⟨_,_,R5.out,?_⟩))
        have KO:Hid (KpE W6 (W6.setCell ⟨w2.heap.size+1,0,none⟩ (kS q))):=KpE.of_but S6.out.o (by decide) (fun j hj _=>Below.heap_setCell W6 ⟨w2.heap.size+1,0,none⟩ _ j hj)
        refine ⟨((((KeepsFrom.of_grownBy (grown_none BC.out) (fun _ e=>by cases e)).trans KF.out)).trans KG.out).trans ((KeepsOthers.setCell _ _ _).from _),((((KpE.of_below BC.out).trans KP.out).trans KE.out).trans KO.out),(.slice A0 it.length c0),(updV vs 1 (.slice A5 ((lsOf ⟨it,tmL,igL,bdL⟩ 1).length+1) c5)),?_⟩
        rw [HNX.out _ HST.out];dsimp only;rw [ls_up1];exact S6.out.setO q
       | false =>
        have ci:Wc.cell? ⟨w.heap.size,0,none⟩=some v:=SC.out.l.at_ 0
        cases bi with
        | true =>
         gi_wp2_with (first
          | (refine ⟨trivial,?_⟩
             gi_at_call 33
             refine (CallsIn.inRound il (callsIn_wide.2 (CT.out _))).mono ?_;rintro e6 Wx ⟨rfl,rfl⟩)
          | (refine ⟨trivial,?_⟩
             gi_at_call 52
             refine (CallsIn.inRound il (callsIn_wide.2 (CI.out _ BC.out))).mono ?_;rintro e7 Wd ⟨rfl,hb7⟩;have BD0:Hid (Below W.heap.size W Wd):=BC.out.trans (hb7.mono BC.out.size);have SD:=hid (SC.out.on hb7);clear hb7;obtain ⟨A5,c5,W5,hr5,f5,o5,kf5,kp5,S5⟩:=SD.out.app (k:=2) (by omega) (by omega) q (HLS.out 2 (by omega) (by omega))
             obtain ⟨Ak,ck,fk⟩:=SD.out.forms.2 2 (by omega) (by omega)
             rw [fk] at hr5;have R5:=hid hr5;have KF:=hid kf5;have KP:=hid kp5;have F5:=hid f5;have O5:=hid o5;have c50:W5.cell? ⟨w2.heap.size,2,none⟩=some (vs 2):=f5.at_ 2;have c51:=f5.free 2;obtain ⟨W6,hW6⟩:∃W6,W5.setCell ⟨w2.heap.size,2,none⟩ (.slice A5 ((lsOf ⟨it,tmL,igL,bdL⟩ 2).length+1) c5)=W6:=⟨_,rfl⟩;rw [hW6] at S5;have S6:=hid S5;have cb:Wd.cell? ⟨w2.heap.size,2,none⟩=some (.slice Ak (lsOf ⟨it,tmL,igL,bdL⟩ 2).length ck):=by rw [←fk];exact SD.out.f.at_ 2
             clear fk;have c60:W6.cell? ⟨w2.heap.size+1,0,none⟩=some (kS over):=S6.out.o.at_ 0;have c61:=S6.out.o.free 0;have KE:Hid (KpE W5 W6):=by rw [←hW6];exact KpE.of_but F5.out (by decide) (fun j hj _=>Below.heap_setCell W5 ⟨w2.heap.size,2,none⟩ _ j hj)
             have KG:Hid (KeepsFrom w4.heap.size W5 W6):=by rw [←hW6];exact (KeepsOthers.setCell _ _ _).from _
             have HST:=hid (step_ign (ig:=igB lo) (f:=⟨it,tmL,igL,bdL⟩) (n:=⟨kd,dt,tg,tm⟩) HSK.out HBT.out HBI.out);clear hr5 f5 o5 kf5 kp5 S5)
          | (gi_at_builtin
             refine listIn_append rfl (.tmp 56) (.tmp 58) 34 34 rfl ⟨_,_,R5.out,?_⟩))
         have KO:Hid (KpE W6 (W6.setCell ⟨w2.heap.size+1,0,none⟩ (kS q))):=KpE.of_but S6.out.o (by decide) (fun j hj _=>Below.heap_setCell W6 ⟨w2.heap.size+1,0,none⟩ _ j hj)
         refine ⟨((((KeepsFrom.of_grownBy (grown_none BD0.out) (fun _ e=>by cases e)).trans KF.out)).trans KG.out).trans ((KeepsOthers.setCell _ _ _).from _),((((KpE.of_below BD0.out).trans KP.out).trans KE.out).trans KO.out),(.slice A0 it.length c0),(updV vs 2 (.slice A5 ((lsOf ⟨it,tmL,igL,bdL⟩ 2).length+1) c5)),?_⟩
         rw [HNX.out _ HST.out];dsimp only;rw [ls_up2];exact S6.out.setO q
        | false =>
         cases bb with
         | true =>
          gi_wp2_with (first
           | (refine ⟨trivial,?_⟩
              gi_at_call 33
              refine (CallsIn.inRound il (callsIn_wide.2 (CT.out _))).mono ?_;rintro e6 Wx ⟨rfl,rfl⟩)
           | (refine ⟨trivial,?_⟩
              gi_at_call 52
              refine (CallsIn.inRound il (callsIn_wide.2 (CI.out _ BC.out))).mono ?_;rintro e7 Wd ⟨rfl,hb7⟩;have BD0:Hid (Below W.heap.size W Wd):=BC.out.trans (hb7.mono BC.out.size);have SD:=hid (SC.out.on hb7);clear hb7;have ND:Hid (Has Wd b12 71 #[.int .i64 kd,kS dt,kS tg,.int .i64 tm]):=HN.out.kept BD0.out HN.out.inside)
           | (refine listIn_load rfl 71 (.tmp 12) rfl b12 0 rfl #[.int .i64 kd,kS dt,kS tg,.int .i64 tm] (load_nodeC ND.out) ?_)
           | (refine ⟨trivial,?_⟩
              gi_at_call 53
              refine (CallsIn.inRound il (callsIn_wide.2 (CB.out _))).mono ?_;rintro e8 We ⟨rfl,hb8⟩;have BE:Hid (Below W.heap.size W We):=BD0.out.trans (hb8.mono BD0.out.size);have SE:=hid (SD.out.on hb8);clear hb8;obtain ⟨A5,c5,W5,hr5,f5,o5,kf5,kp5,S5⟩:=SE.out.app (k:=3) (by omega) (by omega) q (HLS.out 3 (by omega) (by omega))
              obtain ⟨Ak,ck,fk⟩:=SE.out.forms.2 3 (by omega) (by omega)
              rw [fk] at hr5;have R5:=hid hr5;have KF:=hid kf5;have KP:=hid kp5;have F5:=hid f5;have O5:=hid o5;have c50:W5.cell? ⟨w2.heap.size,3,none⟩=some (vs 3):=f5.at_ 3;have c51:=f5.free 3;obtain ⟨W6,hW6⟩:∃W6,W5.setCell ⟨w2.heap.size,3,none⟩ (.slice A5 ((lsOf ⟨it,tmL,igL,bdL⟩ 3).length+1) c5)=W6:=⟨_,rfl⟩;rw [hW6] at S5;have S6:=hid S5;have cb:We.cell? ⟨w2.heap.size,3,none⟩=some (.slice Ak (lsOf ⟨it,tmL,igL,bdL⟩ 3).length ck):=by rw [←fk];exact SE.out.f.at_ 3
              clear fk;have KE:Hid (KpE W5 W6):=by rw [←hW6];exact KpE.of_but F5.out (by decide) (fun j hj _=>Below.heap_setCell W5 ⟨w2.heap.size,3,none⟩ _ j hj)
              have KG:Hid (KeepsFrom w4.heap.size W5 W6):=by rw [←hW6];exact (KeepsOthers.setCell _ _ _).from _
              have HST:=hid (step_bad (ig:=igB lo) (f:=⟨it,tmL,igL,bdL⟩) (n:=⟨kd,dt,tg,tm⟩) HSK.out HBT.out HBI.out HBB.out);clear hr5 f5 o5 kf5 kp5 S5)
           | (gi_at_builtin
              refine listIn_append rfl (.tmp 66) (.tmp 68) 34 34 rfl ⟨_,_,R5.out,?_⟩))
          refine ⟨(((KeepsFrom.of_grownBy (grown_none BE.out) (fun _ e=>by cases e)).trans KF.out).trans KG.out),(((KpE.of_below BE.out).trans KP.out).trans KE.out),(.slice A0 it.length c0),(updV vs 3 (.slice A5 ((lsOf ⟨it,tmL,igL,bdL⟩ 3).length+1) c5)),?_⟩
          rw [HNX.out _ HST.out];dsimp only;rw [ls_up3];exact S6.out
         | false =>
          gi_wp2_with (first
           | (refine ⟨trivial,?_⟩
              gi_at_call 33
              refine (CallsIn.inRound il (callsIn_wide.2 (CT.out _))).mono ?_;rintro e6 Wx ⟨rfl,rfl⟩)
           | (refine ⟨trivial,?_⟩
              gi_at_call 52
              refine (CallsIn.inRound il (callsIn_wide.2 (CI.out _ BC.out))).mono ?_;rintro e7 Wd ⟨rfl,hb7⟩;have BD0:Hid (Below W.heap.size W Wd):=BC.out.trans (hb7.mono BC.out.size);have SD:=hid (SC.out.on hb7);clear hb7;have ND:Hid (Has Wd b12 71 #[.int .i64 kd,kS dt,kS tg,.int .i64 tm]):=HN.out.kept BD0.out HN.out.inside)
           | (refine listIn_load rfl 71 (.tmp 12) rfl b12 0 rfl #[.int .i64 kd,kS dt,kS tg,.int .i64 tm] (load_nodeC ND.out) ?_)
           | (refine ⟨trivial,?_⟩
              gi_at_call 53
              refine (CallsIn.inRound il (callsIn_wide.2 (CB.out _))).mono ?_;rintro e8 We ⟨rfl,hb8⟩;have BE:Hid (Below W.heap.size W We):=BD0.out.trans (hb8.mono BD0.out.size);have SE:=hid (SD.out.on hb8);clear hb8))
          have HST:=hid (step_item (ig:=igB lo) (f:=⟨it,tmL,igL,bdL⟩) (n:=⟨kd,dt,tg,tm⟩) HSK.out HBT.out HBI.out HBB.out);obtain ⟨Wf,hWf⟩:∃Wf,We.drew=Wf:=⟨_,rfl⟩;have bf:Below We.heap.size We Wf:=hWf▸(Below.refl _ _).drew;have BF:Hid (Below W.heap.size W Wf):=BE.out.trans (bf.mono BE.out.size);have SF:=hid (SE.out.on bf);have NF9:Has Wf b12 71 #[.int .i64 kd,kS dt,kS tg,.int .i64 tm]:=HN.out.kept BF.out HN.out.inside;clear bf SE BE;refine region_round (S:=fun X=>Has X b12 71 #[.int .i64 kd,kS dt,kS tg,.int .i64 tm]) hmx (by kernel_rfl) (by rw [hWf];exact NF9) (fun hS=>?_)
          clear hS;rw [hWf];refine tkH 0 (v:=?_) (by simp only [lkA,lkB];rfl) (by kernel_rfl) (fun _ _ _ h=>h) (by rfl) (by assumption) ?_ ?_
          rotate_left 1
          · intro w hSw
            go_simp
            with_reducible rfl
          simp only [Act.put,siA,siB,siC];refine tkH 2 (v:=?_) (by simp only [lkA,lkB,lkC];rfl) (by kernel_rfl) (fun _ _ _ h=>h) (by rfl) (by assumption) ?_ ?_
          rotate_left 1
          · intro w hSw
            go_simp
            with_reducible rfl
          simp only [Act.put,siA,siB,siC];refine' wpAnyH_take (i:=3) (v:=_) (by simp only [lkA,lkB,lkC];rfl) (by kernel_rfl) (by kernel_rfl) (by kernel_rfl) (fun _ _ _ h=>h) (yields_loadA (by rfl) 71 (.tmp 12) rfl b12 0 rfl #[.int .i64 kd,kS dt,kS tg,.int .i64 tm] (fun X hSX=>load_nodeC hSX)) (by assumption) ?_
          simp only [Act.put,siA,siB,siC];have NH:=hid NF9;clear NF9;refine wpAnyH_ready (rs:=[1,4]) (by kernel_rfl) (by simp) ?_
          refine AllReadyH.cons (by simp only [lkA,lkB,lkC];rfl) (fun K hK=>?_) (AllReadyH.cons (by simp only [lkA,lkB,lkC];rfl) (fun K hK=>?_) (AllReadyH.nil))
          · have c1:=(SF.out.f).at_ 0
            go_simp;refine hK.out _ _ NH.out (fun hS=>?_)
            clear hK K hS c1;refine wpAnyH_ready (rs:=[4]) (by kernel_rfl) (by simp) ?_
            refine AllReadyH.cons (by simp only [lkA,lkB,lkC];rfl) (fun K hK=>?_) (AllReadyH.nil)
            go_simp;refine (CM.out trivial _ BF.out).mono ?_;rintro e9 Wg ⟨bv,rfl,hdg,hbg⟩;have BG:Hid (Below W.heap.size W Wg):=BF.out.trans (hbg.mono BF.out.size);have SG:=hid (SF.out.on hbg);have NG:Hid (Has Wg b12 71 #[.int .i64 kd,kS dt,kS tg,.int .i64 tm]):=NH.out.kept hbg NH.out.inside;have hdb:Dgs w4.heap.size Wg bv (hasN ⟨kd,dt,tg,tm⟩):=hdg.mono (Nat.le_trans HS.out.hB BF.out.size);obtain ⟨A5,c5,W5,hr5,f5,kf5,kp5,kn5,S5⟩:=SG.out.appI (q,⟨kd,dt,tg,tm⟩) bv hdb HIL.out;have R5:=hid hr5;have KF:=hid kf5;have KP:=hid kp5;have F5:=hid f5;obtain ⟨cs,hcs⟩:∃cs,recN q ⟨kd,dt,tg,tm⟩ bv=cs:=⟨_,rfl⟩;have HSC:Hid (cs.size=27):=by rw [←hcs];rfl
            dsimp only at R5;rw [hcs] at R5 ⊢;obtain ⟨W6,hW6⟩:∃W6,W5.setCell ⟨w2.heap.size,0,none⟩ (.slice A5 (it.length+1) c5)=W6:=⟨_,rfl⟩;rw [hW6] at S5;have S6:=hid S5;have KE:Hid (KpE W5 W6):=by rw [←hW6];exact KpE.of_but F5.out (by decide) (fun j hj _=>Below.heap_setCell W5 ⟨w2.heap.size,0,none⟩ _ j hj)
            have KG:Hid (KeepsFrom w4.heap.size W5 W6):=by rw [←hW6];exact (KeepsOthers.setCell _ _ _).from _
            have N5:Hid (Has W5 b12 71 #[.int .i64 kd,kS dt,kS tg,.int .i64 tm]):=kn5 _ _ _ NG.out (by decide)
            have N6:Hid (Has W6 b12 71 #[.int .i64 kd,kS dt,kS tg,.int .i64 tm]):=by rw [←hW6];exact N5.out.other (has_ne N5.out F5.out (by decide)) _
            clear hdg hbg hdb hr5 f5 kf5 kp5 kn5 S5 hcs;refine hK.out _ _ NG.out (fun hS=>?_)
            clear hK K hS;refine wpAnyH_ready (rs:=[5]) (by kernel_rfl) (by simp) ?_
            refine AllReadyH.cons (by simp only [lkA,lkB,lkC];rfl) (fun K hK=>?_) (AllReadyH.nil)
            refine step_build_rec (by rfl) (.tmp 29) rfl cs HSC.out rfl ?_
            refine hK.out _ _ (NG.out.more _) (fun hS=>?_)
            clear hK K hS;refine wpAnyH_ready (rs:=[6]) (by kernel_rfl) (by simp) ?_
            refine AllReadyH.cons (by simp only [lkA,lkB,lkC];rfl) (fun K hK=>?_) (AllReadyH.nil)
            refine step_append_run (by rfl) (.tmp 26) (.tmp 30) 37 37 rfl (.slice A0 it.length c0) (.slice (some ⟨Wg.heap.size,0,none⟩) 1 1) rfl rfl R5.out ?_
            have hs5:=N5.out;refine hK.out _ _ hs5 (fun hS=>?_)
            clear hK K hS;refine tkH 7 (v:=?_) (by simp only [lkA,lkB,lkC];rfl) (by kernel_rfl) (fun _ _ _ h=>h) (by rfl) (by assumption) ?_ ?_
            rotate_left 1
            · intro w hSw
              go_simp
              with_reducible rfl
            simp only [Act.put,siA,siB,siC];clear hs5;refine wpAnyH_ready (rs:=[8]) (by kernel_rfl) (by simp) ?_
            refine AllReadyH.cons (by simp only [lkA,lkB,lkC];rfl) (fun K hK=>?_) (AllReadyH.nil)
            have hc:=F5.out.at_ 0;have hf:=F5.out.free 0;go_simp;try rw [hW6]
            refine hK.out _ _ N6.out (fun hS=>?_)
            clear hK K hS hc hf;refine wpAnyH_done (by kernel_rfl) ?_ _
            refine OnlyN.normal ?_;gi_wp2;refine ⟨(((KeepsFrom.of_grownBy (grown_none BG.out) (fun _ e=>by cases e)).trans KF.out).trans KG.out),(((KpE.of_below BG.out).trans KP.out).trans KE.out),.slice A5 (it.length+1) c5,vs,?_⟩
            rw [HNX.out _ HST.out];dsimp only;exact S6.out
          · go_simp
            refine (CM.out trivial _ BF.out).mono ?_;rintro e9 Wg ⟨bv,rfl,hdg,hbg⟩;have BG:Hid (Below W.heap.size W Wg):=BF.out.trans (hbg.mono BF.out.size);have SG:=hid (SF.out.on hbg);have NG:Hid (Has Wg b12 71 #[.int .i64 kd,kS dt,kS tg,.int .i64 tm]):=NH.out.kept hbg NH.out.inside;have hdb:Dgs w4.heap.size Wg bv (hasN ⟨kd,dt,tg,tm⟩):=hdg.mono (Nat.le_trans HS.out.hB BF.out.size);obtain ⟨A5,c5,W5,hr5,f5,kf5,kp5,kn5,S5⟩:=SG.out.appI (q,⟨kd,dt,tg,tm⟩) bv hdb HIL.out;have R5:=hid hr5;have KF:=hid kf5;have KP:=hid kp5;have F5:=hid f5;obtain ⟨cs,hcs⟩:∃cs,recN q ⟨kd,dt,tg,tm⟩ bv=cs:=⟨_,rfl⟩;have HSC:Hid (cs.size=27):=by rw [←hcs];rfl
            dsimp only at R5;rw [hcs] at R5 ⊢;obtain ⟨W6,hW6⟩:∃W6,W5.setCell ⟨w2.heap.size,0,none⟩ (.slice A5 (it.length+1) c5)=W6:=⟨_,rfl⟩;rw [hW6] at S5;have S6:=hid S5;have KE:Hid (KpE W5 W6):=by rw [←hW6];exact KpE.of_but F5.out (by decide) (fun j hj _=>Below.heap_setCell W5 ⟨w2.heap.size,0,none⟩ _ j hj)
            have KG:Hid (KeepsFrom w4.heap.size W5 W6):=by rw [←hW6];exact (KeepsOthers.setCell _ _ _).from _
            have N5:Hid (Has W5 b12 71 #[.int .i64 kd,kS dt,kS tg,.int .i64 tm]):=kn5 _ _ _ NG.out (by decide)
            have N6:Hid (Has W6 b12 71 #[.int .i64 kd,kS dt,kS tg,.int .i64 tm]):=by rw [←hW6];exact N5.out.other (has_ne N5.out F5.out (by decide)) _
            clear hdg hbg hdb hr5 f5 kf5 kp5 kn5 S5 hcs;refine hK.out _ _ NG.out (fun hS=>?_)
            clear hK K hS;refine wpAnyH_ready (rs:=[1,5]) (by kernel_rfl) (by simp) ?_
            refine AllReadyH.cons (by simp only [lkA,lkB,lkC];rfl) (fun K hK=>?_) (AllReadyH.cons (by simp only [lkA,lkB,lkC];rfl) (fun K hK=>?_) (AllReadyH.nil))
            · have c1:=(SG.out.f).at_ 0
              go_simp;refine hK.out _ _ NG.out (fun hS=>?_)
              clear hK K hS c1;refine wpAnyH_ready (rs:=[5]) (by kernel_rfl) (by simp) ?_
              refine AllReadyH.cons (by simp only [lkA,lkB,lkC];rfl) (fun K hK=>?_) (AllReadyH.nil)
              refine step_build_rec (by rfl) (.tmp 29) rfl cs HSC.out rfl ?_
              refine hK.out _ _ (NG.out.more _) (fun hS=>?_)
              clear hK K hS;refine wpAnyH_ready (rs:=[6]) (by kernel_rfl) (by simp) ?_
              refine AllReadyH.cons (by simp only [lkA,lkB,lkC];rfl) (fun K hK=>?_) (AllReadyH.nil)
              refine step_append_run (by rfl) (.tmp 26) (.tmp 30) 37 37 rfl (.slice A0 it.length c0) (.slice (some ⟨Wg.heap.size,0,none⟩) 1 1) rfl rfl R5.out ?_
              have hs5:=N5.out;refine hK.out _ _ hs5 (fun hS=>?_)
              clear hK K hS;refine tkH 7 (v:=?_) (by simp only [lkA,lkB,lkC];rfl) (by kernel_rfl) (fun _ _ _ h=>h) (by rfl) (by assumption) ?_ ?_
              rotate_left 1
              · intro w hSw
                go_simp
                with_reducible rfl
              simp only [Act.put,siA,siB,siC];clear hs5;refine wpAnyH_ready (rs:=[8]) (by kernel_rfl) (by simp) ?_
              refine AllReadyH.cons (by simp only [lkA,lkB,lkC];rfl) (fun K hK=>?_) (AllReadyH.nil)
              have hc:=F5.out.at_ 0;have hf:=F5.out.free 0;go_simp;try rw [hW6]
              refine hK.out _ _ N6.out (fun hS=>?_)
              clear hK K hS hc hf;refine wpAnyH_done (by kernel_rfl) ?_ _
              refine OnlyN.normal ?_;gi_wp2;refine ⟨(((KeepsFrom.of_grownBy (grown_none BG.out) (fun _ e=>by cases e)).trans KF.out).trans KG.out),(((KpE.of_below BG.out).trans KP.out).trans KE.out),.slice A5 (it.length+1) c5,vs,?_⟩
              rw [HNX.out _ HST.out];dsimp only;exact S6.out
            · refine step_build_rec (by rfl) (.tmp 29) rfl cs HSC.out rfl ?_
              refine hK.out _ _ (NG.out.more _) (fun hS=>?_)
              clear hK K hS;refine wpAnyH_ready (rs:=[1]) (by kernel_rfl) (by simp) ?_
              refine AllReadyH.cons (by simp only [lkA,lkB,lkC];rfl) (fun K hK=>?_) (AllReadyH.nil)
              have c1:=(SG.out.f.more (.cells cs 58)).at_ 0;go_simp;refine hK.out _ _ (NG.out.more _) (fun hS=>?_)
              clear hK K hS c1;refine wpAnyH_ready (rs:=[6]) (by kernel_rfl) (by simp) ?_
              refine AllReadyH.cons (by simp only [lkA,lkB,lkC];rfl) (fun K hK=>?_) (AllReadyH.nil)
              refine step_append_run (by rfl) (.tmp 26) (.tmp 30) 37 37 rfl (.slice A0 it.length c0) (.slice (some ⟨Wg.heap.size,0,none⟩) 1 1) rfl rfl R5.out ?_
              have hs5:=N5.out;refine hK.out _ _ hs5 (fun hS=>?_)
              clear hK K hS;refine tkH 7 (v:=?_) (by simp only [lkA,lkB,lkC];rfl) (by kernel_rfl) (fun _ _ _ h=>h) (by rfl) (by assumption) ?_ ?_
              rotate_left 1
              · intro w hSw
                go_simp
                with_reducible rfl
              simp only [Act.put,siA,siB,siC];clear hs5;refine wpAnyH_ready (rs:=[8]) (by kernel_rfl) (by simp) ?_
              refine AllReadyH.cons (by simp only [lkA,lkB,lkC];rfl) (fun K hK=>?_) (AllReadyH.nil)
              have hc:=F5.out.at_ 0;have hf:=F5.out.free 0;go_simp;try rw [hW6]
              refine hK.out _ _ N6.out (fun hS=>?_)
              clear hK K hS hc hf;refine wpAnyH_done (by kernel_rfl) ?_ _
              refine OnlyN.normal ?_;gi_wp2;refine ⟨(((KeepsFrom.of_grownBy (grown_none BG.out) (fun _ e=>by cases e)).trans KF.out).trans KG.out),(((KpE.of_below BG.out).trans KP.out).trans KE.out),.slice A5 (it.length+1) c5,vs,?_⟩
              rw [HNX.out _ HST.out];dsimp only;exact S6.out
 · have q:(c != 0)=true:=by simpa using hc
   rw [if_neg hc];clear hc;go_wp2_with fail
   rw [hw1];refine CN.out.mono ?_;rintro e2 w2 ⟨rfl,hb2⟩;have B2:Hid (Below w.heap.size w w2):=B1.out.trans (hb2.mono B1.out.size);have HF2:Hid (Has w2 (w.heap.size+1) 39 #[.slice none 0 0,.slice none 0 0,.slice none 0 0,.slice none 0 0]):=HF1.out.kept hb2 HF1.out.inside;clear hb2 hw1;go_wp2_with (refine wpList_store_row rfl 39 (.tmp 6) (.tmp 18) rfl (w.heap.size+1) #[.slice none 0 0,.slice none 0 0,.slice none 0 0,.slice none 0 0] rfl rfl 39 _ HF2.out (by kernel_rfl) rfl (by simp [Value.oneCell']) ?_)
   refine ⟨_,results_found rfl _ _ (w.heap.size+1) _ rfl HF2.out.row rfl,?_⟩;exact ⟨.slice none 0 0,fun _=>.slice none 0 0,rfl,RecR.nil _ _,fun k _ _=>StrR.none _ _ k,B2.out.rowK (by omega) _⟩
end Go.Proofs.YtahkcemdbfjilaaGreatDoor
