/- Several texts in one. Conditions: those said at each. -/
import Derived.Test.YtahkcemdbfjilaaGreatDoorIt00
import Derived.Test.YtahkcemdbfjilaaGreatDoorIt24
set_option linter.unusedSimpArgs false
set_option linter.unusedVariables false
set_option maxRecDepth 100000
namespace Go.Proofs.YtahkcemdbfjilaaGreatDoor.Glob
open Go.RowKit Go.Maps
theorem tell_mid {x:Bx} {fs:Fl} {w0 W1:World} {within:List By} {name:By} {v:Value} {nb ab:Nat} {ps:List By} {w W:World} (h:Ln x fs w0 W1 within name v nb ab ps w) (ho:Ar x.B W v within) (hg:w.grownBy W v.ownBlock):Ln x fs w0 W1 within name v nb ab ps W:=by
 have hf:Fr x.L x.D v.ownBlock w W:=Fr.of_str h.ar hg;exact ⟨h.env.fr hf,h.st.str h.ar hg,hf.str h.nbx h.ne,hf.has h.abx (by decide) (by decide) (by decide),ho,h.few,h.fr.tr hf,grown_below hg h.low (fun k hk=>(own_inside h.ar k hk).1) h.size,h.ne⟩
theorem Ar.back {L D B:Nat} {w W:World} {v v':Value} {l:List By} {s:By} {N:Nat} (h1:Ar B w v l) (h2:Ar B w v' (l++[s])) (h3:Ar B W v' (l++[s])) (hf:Fr L D v'.ownBlock w W) (hk:v'.ownBlock=v.ownBlock∨v'.ownBlock=some N) (hN:∀k,v.ownBlock=some k→k < N):Ar B W v l:=by
 rcases hk with hk | hk
 · refine ⟨h1.1,?_⟩
   rcases h1.2 with h | ⟨g,c,cur,rfl,hB,a3,a4,a5,a6,a7⟩
   · exact .inl h
   · refine .inr ?_
     rcases h2.2 with ⟨rfl,_⟩ | ⟨g2,c2,cur2,rfl,hB2,b3,b4,b5,b6,b7⟩
     · cases hk
     · obtain rfl:g2=g:=Option.some.inj hk
       have e:=Option.some.inj (a3.symm.trans b3);simp only [Obj.cells.injEq,and_true] at e;subst e;have hc:c2=c:=by omega
       subst hc;rcases h3.2 with ⟨h,_⟩ | ⟨g3,c3,cur3,h,hB3,d3,d4,d5,d6,d7⟩
       · cases h
       · simp only [Value.slice.injEq,Option.some.injEq,Addr.mk.injEq,and_true,true_and] at h
         obtain ⟨rfl,rfl⟩:=h;refine ⟨g2,c2,cur3,rfl,hB,d3,a4,a5,d6,?_⟩;have:=congrArg (List.take (l.length*1)) d7;rw [List.take_take,Nat.min_eq_left (by simp),List.map_append,List.take_append_of_le_length (by simp),List.take_of_length_le (l:=l.map strV) (by simp)] at this
         exact this
 · exact h1.fr hf (fun k hk2 e=>by have:=hN k hk2;rw [hk] at e;injection e with e;omega)
set_option maxHeartbeats 4000000 in
theorem tell_inc (x:Bx) (fs:Fl) (w0 W1:World) (k:Nat) (hrd:ReadOk x fs w0 k) (within:List By) (name:By) (v:Value) (nb ab:Nat) (ps:List By) (s:By) (w:World) (h:Ln x fs w0 W1 within name v nb ab ps w) (hs:s.length≤100000) (hp:pre incM s=true) (hk:within.length+1+k=4) (hch:Chain fs (within++[name]) (s.drop 9)) :
 Calls Tryz.prog 46 #[.string (ba s),ptrV x.rb,ptrV ab,ptrV nb,ptrV x.lb] w fun e W =>
  Out (lineL (readL fs k (within++[name])) s ps) e (Fr x.L x.D v.ownBlock W1 W∧Below x.B w0 W) (fun qs=>Ln x fs w0 W1 within name v nb ab qs W):=by
 have HL:Hid (lineL (readL fs k (within++[name])) s ps=readL fs k (within++[name]) (s.drop 9) ps):=by show _=_;unfold lineL;rw [if_pos hp]
 have HH:=hid h;have HCP:=hid (fun W=>cut_any s incM W)
 rw [hp] at HCP;have hcu:cutP incM s=s.drop 9:=by unfold cutP;rw [if_pos hp];rfl
 rw [hcu] at HCP;have HUL:Hid ((s.drop 9).length≤1000000000000000):=by show _≤_;rw [List.length_drop];omega
 have HRD:=hid hrd;have HN4:Hid (within.length≤100000):=by show _≤_;omega
 have HNK:Hid ((within++[name]).length+k=4):=by show _=_;rw [List.length_append,List.length_singleton];exact hk
 have HCH:=hid hch;have HSZ:=hid h.fr.1;rw [HL.out];generalize s.drop 9=u at HL HCP HUL HCH;obtain ⟨g,HG⟩:∃g,Hid (readL fs k (within++[name]) u ps=g):=⟨_,rfl⟩;rw [HG.out];obtain ⟨Av,cv,hv⟩:=own_form h.ar;obtain ⟨nv,hnv⟩:∃nv,within.length=nv:=⟨_,rfl⟩;rw [hnv] at hv;subst hv;have c4:=h.env.l.at_ 0;unfold ptrV at c4;unfold ptrV;clear h hp hs hk hch hcu hrd hnv;go_enter Tryz.func46,Tryz.ntmps46
 go_wp2_with (fail)
 refine (HCP.out _).mono ?_;rintro e1 w1 ⟨rfl,rfl⟩;go_wp2_with (fail)
 refine wp_region_noPanic ?_;refine wp_region_held_drew (S:=fun U=>Has U x.rb 107 #[readV x]∧Has U ab 34 #[.slice Av nv cv]∧Has U nb 9 #[.string (ba name)]) (by kernel_rfl) (⟨HH.out.env.r,HH.out.abx,HH.out.nbx⟩) (fun hS=>?_)
 refine inI 0 ?_
 iterate 4
  refine stI (v:=?_) (by simp only [lkA,lkB,lkC];rfl) (by kernel_rfl) (fun _ _ _ h=>h) (by rfl) (by assumption) ?_ ?_
  rotate_left 1
  · intro w hSw
    have c1:=hSw.1.at_ 0;have c2:=hSw.2.1.at_ 0;have c3:=hSw.2.2.at_ 0;unfold readV ptrV at c1;go_simp
    with_reducible rfl
  simp only [Act.put,siA,siB,siC,Nat.reduceAdd]
 refine outI ?_;refine wpAnyH_ready (rs:=[4]) (by kernel_rfl) (by simp) ?_
 refine AllReadyH.cons (by simp only [lkA,lkB,lkC];rfl) (fun K hK=>?_) (AllReadyH.nil)
 refine step_build1 (by rfl) (.tmp 18) rfl (ba name) rfl ?_
 generalize hWb:World.alloc _ _=Wb;have BB:Hid (Below w.heap.size w Wb):=by rw [←hWb];exact ((Below.refl _ _).drew).alloc (Nat.le_refl _) _
 have HNG:Hid (Has Wb w.drew.heap.size 9 #[.string (ba name)]):=by rw [←hWb];exact Has.fresh w.drew 9 _
 clear hWb;have HHb:=hid (HH.out.below BB.out);refine hK.out _ _ ⟨HHb.out.env.r,HHb.out.abx,HHb.out.nbx⟩ (fun hS=>?_)
 clear hK K hS;obtain ⟨v',w5,hr5,ha5,ho5,hg5,hk5⟩:=append_str HHb.out.ar HNG.out HN4.out HHb.out.size 34;have HR5:=hid hr5;have H5:Hid (Ar x.B w5 v' (within++[name])∧Ar x.B w5 (.slice Av nv cv) within∧Wb.grownBy w5 (Value.slice Av nv cv).ownBlock∧(v'.ownBlock=(Value.slice Av nv cv).ownBlock∨v'.ownBlock=some Wb.heap.size)):=⟨ha5,ho5,hg5,hk5⟩;obtain ⟨A5,c5,hv5⟩:=own_form ha5;obtain ⟨n5,hn5⟩:∃n5,(within++[name]).length=n5:=⟨_,rfl⟩;rw [hn5] at hv5;subst hv5;clear hr5 ha5 ho5 hg5 hk5 hn5;have HS5:=hid (tell_mid HHb.out H5.out.2.1 H5.out.2.2.1);refine wpAnyH_ready (rs:=[5]) (by kernel_rfl) (by simp) ?_
 refine AllReadyH.cons (by simp only [lkA,lkB,lkC];rfl) (fun K hK=>?_) (AllReadyH.nil)
 refine step_append_run rfl (.tmp 17) (.tmp 19) 34 34 rfl (.slice Av nv cv) (.slice (some ⟨w.drew.heap.size,0,none⟩) 1 1) rfl rfl HR5.out ?_;refine hK.out _ _ ⟨HS5.out.env.r,HS5.out.abx,HS5.out.nbx⟩ (fun hS=>?_)
 clear hK K hS;have HCR:=hid (HRD.out (within++[name]) u ps _ w5 HNK.out HUL.out HS5.out.env HS5.out.st H5.out.1 HCH.out HS5.out.few HS5.out.low);rw [HG.out] at HCR;unfold ptrV at HCR;refine wpAnyH_ready (rs:=[6]) (by kernel_rfl) (by simp) ?_
 refine AllReadyH.cons (by simp only [lkA,lkB,lkC];rfl) (fun K hK=>?_) (AllReadyH.nil)
 go_simp;refine HCR.out.mono ?_;intro e6 w6 h6;obtain ⟨h6,hf6,hb6⟩:=h6;have HNB6:Hid (Has w6 nb 9 #[.string (ba name)]):=hf6.str HS5.out.nbx (fun e=>H5.out.2.2.2.elim (fun h=>HH.out.ne (e.trans h)) (fun h=>absurd (Option.some.inj (e.trans h)) (Nat.ne_of_lt HHb.out.nbx.inside)))
 have HAB6:Hid (Has w6 ab 34 #[.slice Av nv cv]):=hf6.has HS5.out.abx (by decide) (by decide) (by decide)
 have HE6:=hid (HS5.out.env.fr hf6);have HF6:Hid (Fr x.L x.D (Value.slice Av nv cv).ownBlock W1 w6):=HS5.out.fr.trans hf6 (fun j hj e=>H5.out.2.2.2.elim (fun h=>e.trans h) (fun h=>absurd (Option.some.inj (e.trans h)) (by have:=HHb.out.fr.1;omega)))
 have HF7:=hid hf6;have HB6:=hid hb6;have hS6:=hid h6;clear hf6 hb6
 cases g with
 | error c =>
  obtain ⟨rfl,hc,_⟩:=h6.of_err;have HC:=hid hc;clear h6 hS6 hc;have hz6:Has w6 x.rb 107 #[readV x]∧Has w6 ab 34 #[.slice Av nv cv]∧Has w6 nb 9 #[.string (ba name)]:=⟨HE6.out.r,HAB6.out,HNB6.out⟩;refine hK.out _ _ hz6 (fun hS=>?_)
  clear hK K hS;refine tkH 7 (v:=?_) (by simp only [lkA,lkB,lkC];rfl) (by kernel_rfl) (fun _ _ _ h=>h) (by rfl) (by assumption) ?_ ?_
  rotate_left 1
  · intro w hSw
    go_simp
    with_reducible rfl
  simp only [Act.put,siA,siB,siC];refine wpAnyH_done (by kernel_rfl) ?_ _
  refine NoPanic.normal ?_;go_wp2;go_ret;exact Out.err rfl rfl HC.out ⟨HF6.out,HB6.out⟩
 | ok rs =>
  obtain ⟨rfl,hst,har⟩:=h6.of_ok;have HST:=hid hst;have HAR:=hid har;clear h6 hS6 hst har;have hz6:Has w6 x.rb 107 #[readV x]∧Has w6 ab 34 #[.slice Av nv cv]∧Has w6 nb 9 #[.string (ba name)]:=⟨HE6.out.r,HAB6.out,HNB6.out⟩;refine hK.out _ _ hz6 (fun hS=>?_)
  clear hK K hS;refine tkH 7 (v:=?_) (by simp only [lkA,lkB,lkC];rfl) (by kernel_rfl) (fun _ _ _ h=>h) (by rfl) (by assumption) ?_ ?_
  rotate_left 1
  · intro w hSw
    go_simp
    with_reducible rfl
  simp only [Act.put,siA,siB,siC];refine wpAnyH_done (by kernel_rfl) ?_ _
  refine NoPanic.normal ?_;go_wp2;go_ret;exact Out.ok rfl rfl ⟨HE6.out,HST.out,HNB6.out,HAB6.out,H5.out.2.1.back H5.out.1 HAR.out HF7.out H5.out.2.2.2 (fun k hk=>(own_inside HHb.out.ar k hk).2),readL_64 _ _ _ _ _ _ HG.out HH.out.few,HF6.out,HB6.out,HH.out.ne⟩
end Go.Proofs.YtahkcemdbfjilaaGreatDoor.Glob
namespace Go.Proofs.YtahkcemdbfjilaaGreatDoor.Glob
open Go.RowKit Go.Maps
theorem contains_any (B:Nat) (w:World) (v:Value) (within:List By) (name:By) (h:Ar B w v within) (hn:within.length≤100) :
 Calls Tryz.prog 43 #[v,.string (ba name)] w fun e w'=>e=.returned (.bool (decide (name∈within)))∧w=w':=by
 rcases h.2 with ⟨rfl,h0⟩ | ⟨g,c,cur,rfl,hB,h3,h4,h5,h6,h7⟩
 · refine (Tryz.slices_Contains_string_empty none 0 (ba name) w).mono fun e w' ⟨h1,h2⟩=>⟨?_,h2.symm⟩
   obtain rfl:=List.eq_nil_of_length_eq_zero h0;rw [h1];rfl
 · have hh:Has w g 9 cur:=h3
   refine (Tryz.slices_Contains_string g 0 within.length c (within.map ba) (ba name) w (by simp) (by omega) (fun j hj=>?_)).mono fun e w' ⟨h1,h2⟩=>⟨?_,h2.symm⟩
   · rw [List.length_map] at hj
     rw [Nat.zero_add,hh.at_,←Array.getElem?_toList];have e:(within.map strV)[j]? = some (strV within[j]):=by simp [hj]
     rw [←h7,List.getElem?_take_of_lt (by omega)] at e
     rw [e];simp [strV,hj]
   · rw [h1,List.take_of_length_le (by simp)]
     congr 2
     rw [Bool.eq_iff_iff,Lib.containsS_iff,decide_eq_true_eq,List.mem_map];exact ⟨fun ⟨a,h1,h2⟩=>ba_inj h2▸h1,fun h=>⟨name,h,rfl⟩⟩
theorem grown_map {w W:World} {z:Value} {D c:Nat} {f:Value→Option Value} (hm:MapZ w z D c f) (hg:w.grownBy W (some D)):∀(j:Nat) cs t q,w.heap[j]? = some (Obj.cells cs t q)→W.heap[j]? = w.heap[j]?:=by
 intro j cs t q hj;refine hg.block j (Array.getElem?_eq_some_iff.1 hj).1 fun e=>?_
 injection e with e;obtain ⟨es,ck,h2⟩:=hm.obj;rw [e,h2] at hj
 cases hj
theorem Fr.of_map {w W:World} {z:Value} {L D c:Nat} {r:Option Nat} {f:Value→Option Value} (hm:MapZ w z D c f) (hg:w.grownBy W (some D)):Fr L D r w W:=by
 refine ⟨hg.size,fun j o ho hc=>(hg.block j (Array.getElem?_eq_some_iff.1 ho).1 fun e=>?_).trans ho⟩
 injection e with e;obtain ⟨es,ck,h2⟩:=hm.obj;exact hc.2.1 es ck (Option.some.inj ((e▸ho).symm.trans h2)) e
theorem Has.map {w W:World} {z:Value} {D c:Nat} {f:Value→Option Value} {g:Nat} {t:TypeId} {cs:Array Value} (h:Has w g t cs) (hm:MapZ w z D c f) (hg:w.grownBy W (some D)):Has W g t cs:=(grown_map hm hg g _ _ _ h).trans h
theorem ListIs.map {w W:World} {z:Value} {B L D c:Nat} {f:Value→Option Value} {ps:List By} (h:ListIs B w L ps) (hm:MapZ w z D c f) (hg:w.grownBy W (some D)):ListIs B W L ps:=by
 obtain ⟨v,h1,gs,h2,h3⟩:=h;refine ⟨v,h1.map hm hg,gs,own_stays h2 fun k hk=>?_,h3.fr (Fr.of_map (L:=L) (r:=none) hm hg)⟩
 obtain ⟨cs,q,h4⟩:=own_typed h2 k hk;exact grown_map hm hg k _ _ _ h4
theorem zero_rd (w:World):(zeroValue 111).run Tryz.prog w=.ok zR w:=by kernel_rfl
theorem findF_mem {fs:Fl} {name t:By} (h:findF fs name=some t):name∈fs.map (·.1)∧∃k,∃hk:k < fs.length,fs[k].2=t:=by
 obtain ⟨k,hk,_,h2⟩:=plF_some h 0;refine ⟨?_,k,hk,h2⟩;unfold findF at h
 cases hf:fs.find? (fun f=>f.1 == name) with
 | none=>rw [hf] at h;cases h
 | some f =>
  have:=List.find?_some hf;have hm:=List.mem_of_find?_eq_some hf;exact List.mem_map.2 ⟨f,hm,by simpa using this⟩
theorem More.part {B:Nat} {w:World} {A:Option Addr} {n c a b:Nat} {ps:List By} (h:Pats B w (.slice A n c) ps) (hn:n=ps.length) (h1:a≤b) (h2:b≤n):More w (sliced A a b c 1) ((ps.drop a).take (b - a))∧n≤c:=by
 subst hn;obtain ⟨gs,ho,hp⟩:=h;have hl:((ps.drop a).take (b - a)).length=b - a:=by simp;omega
 rcases ho.2 with ⟨h0,hn⟩ | ⟨g,c',cur,h0,hB,h3,h4,h5,h6,h7⟩
 · simp only [Value.slice.injEq] at h0
   obtain ⟨rfl,_,rfl⟩:=h0;have ha:a=0:=by omega
   have hb:b=0:=by omega
   subst ha;subst hb;refine ⟨⟨[],none,0,rfl,?_,fun _=>⟨rfl,rfl⟩,fun a ha=>nomatch ha⟩,by omega⟩
   simp only [Nat.sub_self,List.take_zero];exact PtrTo.nil w
 · simp only [Value.slice.injEq,true_and] at h0
   obtain ⟨rfl,rfl⟩:=h0;refine ⟨⟨(gs.drop a).take (b - a),_,c - a,by unfold sliced;rw [hl],hp.part a (b - a),fun e=>?_,fun ad had j u hj=>?_⟩,h4⟩
   · split at e<;>cases e
   · have hh:Has w g 169 cur:=h3
     rw [List.getElem?_map,List.getElem?_take] at hj;by_cases hjb:j < b - a
     · rw [if_pos hjb,List.getElem?_drop] at hj
       have hac:¬(c=a):=by omega
       rw [if_neg hac] at had;simp only [Option.map_some,Option.some.injEq] at had;subst had;have e:(Addr.add (Addr.add ⟨g,0,none⟩ (a*1)) j)=⟨g,a+j,none⟩:=by rw [Addr.add_lit,Addr.add_lit];simp
       rw [e,hh.at_,←Array.getElem?_toList];rw [←List.getElem?_map,←h7,List.getElem?_take] at hj;split at hj
       · exact hj
       · cases hj
     · rw [if_neg hjb] at hj;cases hj
set_option maxHeartbeats 4000000 in
theorem read_none (x:Bx) (fs:Fl) (w0:World) (k:Nat) (within:List By) (name:By) (ps:List By) (v:Value) (w:World) (hk:within.length+k=4) (hnm:name.length≤1000000000000000) (he:Env x fs w) (hs:St x fs ps w) (ha:Ar x.B w v within) (_hch:Chain fs within name) (_h64:ps.length≤64) (hb:Below x.B w0 w) (hf:findF fs name=none) :
 Calls Tryz.prog 42 #[.string (ba name),v,ptrV x.tb,ptrV x.db,ptrV x.lb,ptrV x.fb,ptrV x.rb] w fun e W =>
  Out (readL fs k within name ps) e True (fun qs=>St x fs qs W∧Ar x.B W v within)∧Fr x.L x.D v.ownBlock w W∧Below x.B w0 W:=by
 have hsz:x.B≤w.heap.size:=by have:=hs.low;obtain ⟨_,q,_⟩:=hs.list;have:=q.inside;omega
 obtain ⟨Wa,hWa⟩:∃Wa,w.alloc (.cells #[.string (ba name)] 9)=Wa:=⟨_,rfl⟩;obtain ⟨W2,hW2⟩:∃W2,Wa.alloc (.cells #[v] 34)=W2:=⟨_,rfl⟩;have sa:Wa.heap.size=w.heap.size+1:=by rw [←hWa];simp
 have s2:W2.heap.size=w.heap.size+2:=by rw [←hW2];simp [sa]
 have ba1:Below w.heap.size w Wa:=hWa▸(Below.refl _ _).alloc (Nat.le_refl _) _;have b2:Below w.heap.size w W2:=hW2▸ba1.alloc (by omega) _
 have n2:Has W2 w.heap.size 9 #[.string (ba name)]:=hW2▸(hWa▸Has.fresh w 9 _:Has Wa w.heap.size 9 _).more _;have v2:Has W2 (w.heap.size+1) 34 #[v]:=hW2▸Has.fresh' Wa 34 _ sa.symm;have HE2:=hid (he.below b2);have HS2:=hid (hs.below b2);have HA2:Hid (Ar x.B W2 v within):=own_below ha b2;have HB2:=hid b2;have HLO:Hid (Below x.B w0 W2):=hb.trans (b2.mono hsz);have HSZ:=hid hsz;have HK:=hid (str_key name (by unfold maxLen;omega))
 have HLK:=hid hs;obtain ⟨cp,hpl⟩:=HE2.out.places;have hlook:=hpl.lookOk Tryz.underlying101 (zero_int W2) HK.out;have hct:=HE2.out.t.at_ 0;have hcn:=n2.at_ 0;have hcv:=v2.at_ 0;rw [plF_none hf 0] at hlook;simp only [Option.getD_none,Option.isSome_none] at hlook;have HR:Hid (readL fs k within name ps=.error 5):=by show _=_;cases k<;>(unfold readL;rw [hf])
 have HN2:=hid n2;have HV2:=hid v2;obtain ⟨Av,cv,hv⟩:=own_form ha;obtain ⟨nv,hnv⟩:∃nv,within.length=nv:=⟨_,rfl⟩;rw [hnv] at hv;subst hv;unfold ptrV;clear he hs ha _hch hb ba1 b2 n2 v2 hpl hf;go_enter Tryz.func42,Tryz.ntmps42
 go_wp2;go_ret;exact ⟨Out.err HR.out rfl (by decide) trivial,Fr.of_below HB2.out,HLO.out⟩
set_option maxHeartbeats 4000000 in
theorem read_busy (x:Bx) (fs:Fl) (w0:World) (k:Nat) (within:List By) (name:By) (ps:List By) (v:Value) (w:World) (hk:within.length+k=4) (hnm:name.length≤1000000000000000) (he:Env x fs w) (hs:St x fs ps w) (ha:Ar x.B w v within) (_hch:Chain fs within name) (_h64:ps.length≤64) (hb:Below x.B w0 w) (t:By) (hf:findF fs name=some t) (hm:name∈within) :
 Calls Tryz.prog 42 #[.string (ba name),v,ptrV x.tb,ptrV x.db,ptrV x.lb,ptrV x.fb,ptrV x.rb] w fun e W =>
  Out (readL fs k within name ps) e True (fun qs=>St x fs qs W∧Ar x.B W v within)∧Fr x.L x.D v.ownBlock w W∧Below x.B w0 W:=by
 have hsz:x.B≤w.heap.size:=by have:=hs.low;obtain ⟨_,q,_⟩:=hs.list;have:=q.inside;omega
 obtain ⟨Wa,hWa⟩:∃Wa,w.alloc (.cells #[.string (ba name)] 9)=Wa:=⟨_,rfl⟩;obtain ⟨W2,hW2⟩:∃W2,Wa.alloc (.cells #[v] 34)=W2:=⟨_,rfl⟩;have sa:Wa.heap.size=w.heap.size+1:=by rw [←hWa];simp
 have s2:W2.heap.size=w.heap.size+2:=by rw [←hW2];simp [sa]
 have ba1:Below w.heap.size w Wa:=hWa▸(Below.refl _ _).alloc (Nat.le_refl _) _;have b2:Below w.heap.size w W2:=hW2▸ba1.alloc (by omega) _
 have n2:Has W2 w.heap.size 9 #[.string (ba name)]:=hW2▸(hWa▸Has.fresh w 9 _:Has Wa w.heap.size 9 _).more _;have v2:Has W2 (w.heap.size+1) 34 #[v]:=hW2▸Has.fresh' Wa 34 _ sa.symm;have HE2:=hid (he.below b2);have HS2:=hid (hs.below b2);have HA2:Hid (Ar x.B W2 v within):=own_below ha b2;have HB2:=hid b2;have HLO:Hid (Below x.B w0 W2):=hb.trans (b2.mono hsz);have HSZ:=hid hsz;have HK:=hid (str_key name (by unfold maxLen;omega))
 have HLK:=hid hs;obtain ⟨cp,hpl⟩:=HE2.out.places;have hlook:=hpl.lookOk Tryz.underlying101 (zero_int W2) HK.out;have hct:=HE2.out.t.at_ 0;have hcn:=n2.at_ 0;have hcv:=v2.at_ 0;obtain ⟨j,hj,hpj,hjt⟩:=plF_some hf 0;rw [hpj] at hlook;simp only [Option.getD_some,Option.isSome_some,Nat.zero_add] at hlook;have HCT:=hid (contains_any x.B W2 v within name HA2.out (by omega))
 rw [decide_eq_true hm] at HCT;have HR:Hid (readL fs k within name ps=.error 22):=by show _=_;cases k<;>(unfold readL;rw [hf];simp only;rw [if_pos hm])
 have HN2:=hid n2;have HV2:=hid v2;obtain ⟨Av,cv,hv⟩:=own_form ha;obtain ⟨nv,hnv⟩:∃nv,within.length=nv:=⟨_,rfl⟩;rw [hnv] at hv;subst hv;unfold ptrV;clear he hs ha _hch hb ba1 b2 n2 v2 hpl hf hm hpj hjt hj;go_enter Tryz.func42,Tryz.ntmps42
 go_wp2_with (go_at_call 43;refine HCT.out.mono ?_;rintro e1 w1 ⟨rfl,rfl⟩)
 go_ret;exact ⟨Out.err HR.out rfl (by decide) trivial,Fr.of_below HB2.out,HLO.out⟩
set_option maxHeartbeats 4000000 in
theorem read_deep (x:Bx) (fs:Fl) (w0:World) (k:Nat) (within:List By) (name:By) (ps:List By) (v:Value) (w:World) (hk:within.length+k=4) (hnm:name.length≤1000000000000000) (he:Env x fs w) (hs:St x fs ps w) (ha:Ar x.B w v within) (_hch:Chain fs within name) (_h64:ps.length≤64) (hb:Below x.B w0 w) (t:By) (hf:findF fs name=some t) (hm:name∉within) (h0:k=0) :
 Calls Tryz.prog 42 #[.string (ba name),v,ptrV x.tb,ptrV x.db,ptrV x.lb,ptrV x.fb,ptrV x.rb] w fun e W =>
  Out (readL fs k within name ps) e True (fun qs=>St x fs qs W∧Ar x.B W v within)∧Fr x.L x.D v.ownBlock w W∧Below x.B w0 W:=by
 have hsz:x.B≤w.heap.size:=by have:=hs.low;obtain ⟨_,q,_⟩:=hs.list;have:=q.inside;omega
 obtain ⟨Wa,hWa⟩:∃Wa,w.alloc (.cells #[.string (ba name)] 9)=Wa:=⟨_,rfl⟩;obtain ⟨W2,hW2⟩:∃W2,Wa.alloc (.cells #[v] 34)=W2:=⟨_,rfl⟩;have sa:Wa.heap.size=w.heap.size+1:=by rw [←hWa];simp
 have s2:W2.heap.size=w.heap.size+2:=by rw [←hW2];simp [sa]
 have ba1:Below w.heap.size w Wa:=hWa▸(Below.refl _ _).alloc (Nat.le_refl _) _;have b2:Below w.heap.size w W2:=hW2▸ba1.alloc (by omega) _
 have n2:Has W2 w.heap.size 9 #[.string (ba name)]:=hW2▸(hWa▸Has.fresh w 9 _:Has Wa w.heap.size 9 _).more _;have v2:Has W2 (w.heap.size+1) 34 #[v]:=hW2▸Has.fresh' Wa 34 _ sa.symm;have HE2:=hid (he.below b2);have HS2:=hid (hs.below b2);have HA2:Hid (Ar x.B W2 v within):=own_below ha b2;have HB2:=hid b2;have HLO:Hid (Below x.B w0 W2):=hb.trans (b2.mono hsz);have HSZ:=hid hsz;have HK:=hid (str_key name (by unfold maxLen;omega))
 have HLK:=hid hs;obtain ⟨cp,hpl⟩:=HE2.out.places;have hlook:=hpl.lookOk Tryz.underlying101 (zero_int W2) HK.out;have hct:=HE2.out.t.at_ 0;have hcn:=n2.at_ 0;have hcv:=v2.at_ 0;obtain ⟨j,hj,hpj,hjt⟩:=plF_some hf 0;rw [hpj] at hlook;simp only [Option.getD_some,Option.isSome_some,Nat.zero_add] at hlook;have HCT:=hid (contains_any x.B W2 v within name HA2.out (by omega))
 rw [decide_eq_false hm] at HCT;have HR:Hid (readL fs k within name ps=.error 3):=by show _=_;rw [h0];unfold readL;rw [hf];simp only;rw [if_neg hm]
 have HN2:=hid n2;have HV2:=hid v2;obtain ⟨Av,cv,hv⟩:=own_form ha;obtain ⟨nv,hnv⟩:∃nv,within.length=nv:=⟨_,rfl⟩;rw [hnv] at hv;subst hv;have hn4:(nv:Int)=4:=by omega
 unfold ptrV;clear he hs ha _hch hb ba1 b2 n2 v2 hpl hf hm hpj hjt hj;go_enter Tryz.func42,Tryz.ntmps42
 go_wp2_with (go_at_call 43;refine HCT.out.mono ?_;rintro e1 w1 ⟨rfl,rfl⟩)
 go_ret;exact ⟨Out.err HR.out rfl (by decide) trivial,Fr.of_below HB2.out,HLO.out⟩
set_option maxHeartbeats 4000000 in
theorem read_hit (x:Bx) (fs:Fl) (w0:World) (k:Nat) (within:List By) (name:By) (ps:List By) (v:Value) (w:World) (hk:within.length+k=4) (hnm:name.length≤1000000000000000) (he:Env x fs w) (hs:St x fs ps w) (ha:Ar x.B w v within) (hch:Chain fs within name) (h64:ps.length≤64) (hb:Below x.B w0 w) (t:By) (hf:findF fs name=some t) (hm:name∉within) (hn:within.length≤3) (_hfl:fs.length≤1000) (d a b:Nat) (hdone:∀c f,MapZ w zR x.D c f→Done fs f c ps→f (.string (ba name))=some (rdV d a b)) (hnd:within.length≤d) :
 Calls Tryz.prog 42 #[.string (ba name),v,ptrV x.tb,ptrV x.db,ptrV x.lb,ptrV x.fb,ptrV x.rb] w fun e W =>
  Out (readL fs k within name ps) e True (fun qs=>St x fs qs W∧Ar x.B W v within)∧Fr x.L x.D v.ownBlock w W∧Below x.B w0 W:=by
 have hsz:x.B≤w.heap.size:=by have:=hs.low;obtain ⟨_,q,_⟩:=hs.list;have:=q.inside;omega
 obtain ⟨Wa,hWa⟩:∃Wa,w.alloc (.cells #[.string (ba name)] 9)=Wa:=⟨_,rfl⟩;obtain ⟨W2,hW2⟩:∃W2,Wa.alloc (.cells #[v] 34)=W2:=⟨_,rfl⟩;have sa:Wa.heap.size=w.heap.size+1:=by rw [←hWa];simp
 have s2:W2.heap.size=w.heap.size+2:=by rw [←hW2];simp [sa]
 have ba1:Below w.heap.size w Wa:=hWa▸(Below.refl _ _).alloc (Nat.le_refl _) _;have b2:Below w.heap.size w W2:=hW2▸ba1.alloc (by omega) _
 have n2:Has W2 w.heap.size 9 #[.string (ba name)]:=hW2▸(hWa▸Has.fresh w 9 _:Has Wa w.heap.size 9 _).more _;have v2:Has W2 (w.heap.size+1) 34 #[v]:=hW2▸Has.fresh' Wa 34 _ sa.symm;have HE2:=hid (he.below b2);have HS2:=hid (hs.below b2);have HA2:Hid (Ar x.B W2 v within):=own_below ha b2;have HB2:=hid b2;have HLO:Hid (Below x.B w0 W2):=hb.trans (b2.mono hsz);have HSZ:=hid hsz;have HK:=hid (str_key name (by unfold maxLen;omega))
 have HLK:=hid hs;obtain ⟨cp,hpl⟩:=HE2.out.places;have hlook:=hpl.lookOk Tryz.underlying101 (zero_int W2) HK.out;have hct:=HE2.out.t.at_ 0;have hcn:=n2.at_ 0;have hcv:=v2.at_ 0;obtain ⟨j,hj,hpj,hjt⟩:=plF_some hf 0;rw [hpj] at hlook;simp only [Option.getD_some,Option.isSome_some,Nat.zero_add] at hlook;have HCT:=hid (contains_any x.B W2 v within name HA2.out (by omega))
 rw [decide_eq_false hm] at HCT;obtain ⟨cd,fd,hmd,hdn⟩:=HS2.out.done;have hlkd:=hmd.lookOk Tryz.underlying103 (zero_rd W2) HK.out;have hcd:=HE2.out.d.at_ 0;have hfd:fd (.string (ba name))=some (rdV d a b):=by
  obtain ⟨c',f',k1,k2⟩:=hs.done;have e1:=hdone c' f' k1 k2;have hb2:=k1.lookOk Tryz.underlying103 (zero_rd w) HK.out;have hb3:=(k1.kept (HB2.out.block _ k1.inside)).lookOk Tryz.underlying103 (zero_rd W2) HK.out;rw [hb3] at hlkd;simp only [Result.ok.injEq,Value.tuple.injEq,and_true] at hlkd;have e2:=congrArg (fun a:Array Value=>a.toList) hlkd
  simp only [List.cons.injEq,Value.bool.injEq,and_true] at e2;rw [e1] at e2;simp only [Option.getD_some,Option.isSome_some] at e2
  cases hq:fd (.string (ba name)) with
  | none=>rw [hq] at e2;simp at e2
  | some u=>rw [hq] at e2;simp at e2;rw [e2]
 rw [hfd] at hlkd;simp only [Option.getD_some,Option.isSome_some] at hlkd;obtain ⟨d',a',b',he',hd3,hab,hbp,hfla⟩:=hdn.1 name _ hfd;simp only [rdV,Value.agg.injEq] at he';have he2:=congrArg (fun a:Array Value=>a.toList) he'
 simp only [List.cons.injEq,Value.int.injEq,true_and,and_true,Int.natCast_inj] at he2;obtain ⟨rfl,rfl,rfl⟩:=he2;have HR:Hid (readL fs k within name ps=addL ps ((ps.drop a).take (b - a))):=readL_add fs k within name ps _ (flat_mono (by omega) hfla) hch h64
 unfold rdV at hlkd;obtain ⟨W3,hW3⟩:∃W3,W2.alloc (.cells #[.int .i64 (d:Int),.int .i64 (a:Int),.int .i64 (b:Int)] 111)=W3:=⟨_,rfl⟩;have b3:Below W2.heap.size W2 W3:=hW3▸(Below.refl _ _).alloc (Nat.le_refl _) _;have r3:Has W3 (w.heap.size+2) 111 #[.int .i64 (d:Int),.int .i64 (a:Int),.int .i64 (b:Int)]:=hW3▸Has.fresh' W2 111 _ s2.symm;have HB3:=hid b3;have HR3:=hid r3;have HL3:=hid (HS2.out.list.below b3);have HE3:=hid (HE2.out.below b3);have hcv3:W3.cell? ⟨w.heap.size+1,0,none⟩=some v:=(v2.stays b3).at_ 0;have hrd:=r3.at_ 0;obtain ⟨lv,hLh,hLp⟩:=HL3.out;obtain ⟨gs,howr,hptr⟩:=hLp;obtain ⟨A,c,hlv⟩:=own_form howr;obtain ⟨n,hnp⟩:∃n,ps.length=n:=⟨_,rfl⟩;rw [hnp] at hlv;subst hlv;have HMP:=hid (More.part ⟨gs,howr,hptr⟩ hnp.symm hab (by omega))
 have HLH:=hid hLh;have HCA:=hid (add_any x.B x.L ps ((ps.drop a).take (b - a)) (sliced A a b c 1) W3.drew (HL3.out.below (Below.refl _ _).drew) (show More W3.drew _ _ from HMP.out.1) h64 (by simp;omega) HS2.out.low)
 have HPSL:=hid hnp;have hnd2:(within.length:Int)≤(d:Int):=by omega
 have hab2:(a:Int)≤(b:Int):=by omega
 have hbc:(b:Int)≤(c:Int):=by have:=HMP.out.2;omega
 have hsl:∀U,(Instr.sliceAt 104 (.slice A n c) (some (.int .i64 (a:Int))) (some (.int .i64 (b:Int))) none).run Tryz.prog U=.ok (sliced A a b c 1) U:=fun U=>by
  rw [run_sliceAt_slice U 104 _ _ _ _ (by kernel_rfl),run_slice_lh U 104 A n c (by kernel_rfl) .i64 .i64 _ _ (by omega) hab2 hbc]
  simp only [Int.toNat_natCast];rfl
 have HSL:=hid hsl;have HN2:=hid n2;have HV2:=hid v2;obtain ⟨Av,cv,hv⟩:=own_form ha;obtain ⟨nv,hnv⟩:∃nv,within.length=nv:=⟨_,rfl⟩;rw [hnv] at hv;subst hv;have hn4:¬((nv:Int)=4):=by omega
 rw [hnv] at hnd2;obtain ⟨g,HG⟩:∃g,Hid (addL ps ((ps.drop a).take (b - a))=g):=⟨_,rfl⟩;rw [HG.out] at HCA HR;generalize hsv:sliced A a b c 1=sv at HCA HSL;have HFDN:=hid hdn;have HMD:=hid hmd;unfold ptrV at HCA;unfold ptrV;clear he hs ha hch hb ba1 b2 n2 v2 hpl hf hm hpj hjt hj hdn hmd hfla he' hfd r3 b3 hLh howr hptr hsl hdone h64 hsv HMP hnp hab hbp hnd;go_enter Tryz.func42,Tryz.ntmps42
 go_wp2_with (go_at_call 43;refine HCT.out.mono ?_;rintro e1 w1 ⟨rfl,rfl⟩)
 refine wp_region_noPanic ?_;refine wp_region_held_drew (S:=fun U=>Has U x.lb 30 #[ptrV x.L]∧Has U (w.heap.size+2) 111 #[.int .i64 (d:Int),.int .i64 (a:Int),.int .i64 (b:Int)]) (by kernel_rfl) (⟨HE3.out.l,HR3.out⟩) (fun hS=>?_)
 refine inI 0 ?_
 iterate 4
  refine stI (v:=?_) (by simp only [lkA,lkB,lkC];rfl) (by kernel_rfl) (fun _ _ _ h=>h) (by rfl) (by assumption) ?_ ?_
  rotate_left 1
  · intro w hSw
    have c1:=hSw.1.at_ 0;have c3:=hSw.2.at_ 1;have c4:=hSw.2.at_ 2;unfold ptrV at c1;go_simp
    with_reducible rfl
  simp only [Act.put,siA,siB,siC,Nat.reduceAdd]
 refine outI ?_;refine inI 5 ?_
 iterate 4
  refine stI (v:=?_) (by simp only [lkA,lkB,lkC];rfl) (by kernel_rfl) (fun _ _ _ h=>h) (by rfl) (by assumption) ?_ ?_
  rotate_left 1
  · intro w hSw
    have c1:=hSw.1.at_ 0;have c3:=hSw.2.at_ 1;have c4:=hSw.2.at_ 2;unfold ptrV at c1;go_simp
    with_reducible rfl
  simp only [Act.put,siA,siB,siC,Nat.reduceAdd]
 refine outI ?_;refine wpAnyH_ready (rs:=[4]) (by kernel_rfl) (by simp) ?_
 refine AllReadyH.cons (by simp only [lkA,lkB,lkC];rfl) (fun K hK=>?_) AllReadyH.nil
 have c2:W3.drew.cell? ⟨x.L,0,none⟩=some (.slice A n c):=HLH.out.at_ 0;go_simp;refine hK.out _ _ hS (fun hS=>?_)
 clear hK K hS;clear c2;refine' wpAnyH_take (i:=9) (v:=_) (by simp only [lkA,lkB,lkC];rfl) (by kernel_rfl) (by kernel_rfl) (by kernel_rfl) (fun _ _ _ h=>h) (yields_slice (by rfl) (.tmp 51) (.tmp 53) (.tmp 55) rfl (.slice A n c) (.int .i64 (a:Int)) (.int .i64 (b:Int)) sv rfl rfl rfl (fun U _=>HSL.out U)) (by assumption) ?_
 simp only [Act.put,siA,siB,siC];refine wpAnyH_ready (rs:=[10]) (by kernel_rfl) (by simp) ?_
 refine AllReadyH.cons (by simp only [lkA,lkB,lkC];rfl) (fun K hK=>?_) (AllReadyH.nil)
 go_simp;refine HCA.out.mono ?_;intro e6 w6 h6
 cases g with
 | error c =>
  obtain ⟨rfl,hc,hw6⟩:=h6.of_err;have HC:=hid hc;clear h6 hc;subst hw6;have hz6:Has W3.drew x.lb 30 #[ptrV x.L]∧Has W3.drew (w.heap.size+2) 111 #[.int .i64 (d:Int),.int .i64 (a:Int),.int .i64 (b:Int)]:=⟨HE3.out.l,HR3.out⟩;refine hK.out _ _ hz6 (fun hS=>?_)
  clear hK K hS;refine tkH 11 (v:=?_) (by simp only [lkA,lkB,lkC];rfl) (by kernel_rfl) (fun _ _ _ h=>h) (by rfl) (by assumption) ?_ ?_
  rotate_left 1
  · intro w hSw
    go_simp
    with_reducible rfl
  simp only [Act.put,siA,siB,siC];refine wpAnyH_done (by kernel_rfl) ?_ _
  refine NoPanic.normal ?_;go_wp2;go_ret;exact ⟨Out.err HR.out rfl HC.out trivial,Fr.of_below ((HB2.out.thenG HB3.out).thenG (Below.refl _ _).drew),HLO.out.trans ((HB3.out.thenG (Below.refl _ _).drew).mono (Nat.le_trans HSZ.out HB2.out.size))⟩
 | ok rs =>
  obtain ⟨rfl,hl6,hf6,hb6⟩:=h6.of_ok;have HL6:=hid hl6;have HF6:Hid (∀D r,Fr x.L D r W2 w6):=fun D r=>(Fr.of_below (HB3.out.thenG (Below.refl _ _).drew)).tr (hf6 D r)
  have HB6:Hid (Below x.B w0 w6):=hb6 w0 (HLO.out.trans ((HB3.out.thenG (Below.refl _ _).drew).mono (Nat.le_trans HSZ.out HB2.out.size)));have hz6:Has w6 x.lb 30 #[ptrV x.L]∧Has w6 (w.heap.size+2) 111 #[.int .i64 (d:Int),.int .i64 (a:Int),.int .i64 (b:Int)]:=⟨(hf6 0 none).has (w:=W3.drew) HE3.out.l (by decide) (by decide) (by decide),(hf6 0 none).has (w:=W3.drew) HR3.out (by decide) (by decide) (by decide)⟩
  clear h6 hl6 hf6 hb6;refine hK.out _ _ hz6 (fun hS=>?_)
  clear hK K hS;refine tkH 11 (v:=?_) (by simp only [lkA,lkB,lkC];rfl) (by kernel_rfl) (fun _ _ _ h=>h) (by rfl) (by assumption) ?_ ?_
  rotate_left 1
  · intro w hSw
    go_simp
    with_reducible rfl
  simp only [Act.put,siA,siB,siC];refine wpAnyH_done (by kernel_rfl) ?_ _
  refine NoPanic.normal ?_;go_wp2;go_ret;refine ⟨Out.ok HR.out rfl ⟨⟨HL6.out,⟨cd,fd,?_,?_⟩,HLK.out.low⟩,?_⟩,?_,HB6.out⟩
  · obtain ⟨es,ck,ho⟩:=HMD.out.obj
    exact HMD.out.kept (((HF6.out (x.D+1) none).2 _ _ ho (Calm.map (by omega))).trans ho.symm)
  · have:=HG.out
    unfold addL at this;split at this
    · simp only [Except.ok.injEq] at this
      rw [←this];exact HFDN.out.more _
    · cases this
  · exact HA2.out.fr (HF6.out 0 none) (fun k _ e=>nomatch e)
  · exact (Fr.of_below HB2.out).tr (HF6.out x.D _)
end Go.Proofs.YtahkcemdbfjilaaGreatDoor.Glob
