/- Several texts in one. Conditions: those said at each. -/
import Derived.Test.YtahkcemdbfjilaaGreatDoorIt00
import Derived.Test.YtahkcemdbfjilaaGreatDoorIt25
set_option linter.unusedSimpArgs false
set_option linter.unusedVariables false
set_option maxRecDepth 100000
namespace Go.Proofs.YtahkcemdbfjilaaGreatDoor.Glob
open Go.RowKit Go.Maps
open Classical in
set_option maxHeartbeats 4000000 in
theorem read_new (x:Bx) (fs:Fl) (w0:World) (k:Nat) (hrd:ReadOk x fs w0 k) (hgd:Gd w0) (hfi:FilesIs w0 x.fv fs) (hBs:x.B=w0.heap.size) (within:List By) (name:By) (ps:List By) (v:Value) (w:World) (hk:within.length+1+k=4) (hnm:name.length≤1000000000000000) (he:Env x fs w) (hs:St x fs ps w) (ha:Ar x.B w v within) (hch:Chain fs within name) (h64:ps.length≤64) (hb:Below x.B w0 w) (t:By) (hf:findF fs name=some t) (hm:name∉within) (hn:within.length≤3) (hfl:fs.length≤1000) (htx:t.length≤100000) (hdone:∀c f,MapZ w zR x.D c f→Done fs f c ps→f (.string (ba name))=none) :
 Calls Tryz.prog 42 #[.string (ba name),v,ptrV x.tb,ptrV x.db,ptrV x.lb,ptrV x.fb,ptrV x.rb] w fun e W =>
  Out (readL fs (k+1) within name ps) e True (fun qs=>St x fs qs W∧Ar x.B W v within)∧Fr x.L x.D v.ownBlock w W∧Below x.B w0 W:=by
 have hsz:x.B≤w.heap.size:=by have:=hs.low;obtain ⟨_,q,_⟩:=hs.list;have:=q.inside;omega
 obtain ⟨Wa,hWa⟩:∃Wa,w.alloc (.cells #[.string (ba name)] 9)=Wa:=⟨_,rfl⟩;obtain ⟨W2,hW2⟩:∃W2,Wa.alloc (.cells #[v] 34)=W2:=⟨_,rfl⟩;have sa:Wa.heap.size=w.heap.size+1:=by rw [←hWa];simp
 have s2:W2.heap.size=w.heap.size+2:=by rw [←hW2];simp [sa]
 have ba1:Below w.heap.size w Wa:=hWa▸(Below.refl _ _).alloc (Nat.le_refl _) _;have b2:Below w.heap.size w W2:=hW2▸ba1.alloc (by omega) _
 have n2:Has W2 w.heap.size 9 #[.string (ba name)]:=hW2▸(hWa▸Has.fresh w 9 _:Has Wa w.heap.size 9 _).more _;have v2:Has W2 (w.heap.size+1) 34 #[v]:=hW2▸Has.fresh' Wa 34 _ sa.symm;have HE2:=hid (he.below b2);have HS2:=hid (hs.below b2);have HA2:Hid (Ar x.B W2 v within):=own_below ha b2;have HB2:=hid b2;have HLO:Hid (Below x.B w0 W2):=hb.trans (b2.mono hsz);have HSZ:=hid hsz;have HK:=hid (str_key name (by unfold maxLen;omega))
 have HLK:=hid hs;obtain ⟨cp,hpl⟩:=HE2.out.places;have hlook:=hpl.lookOk Tryz.underlying101 (zero_int W2) HK.out;have hct:=HE2.out.t.at_ 0;have hcn:=n2.at_ 0;have hcv:=v2.at_ 0;obtain ⟨j,hj,hpj,hjt⟩:=plF_some hf 0;rw [hpj] at hlook;simp only [Option.getD_some,Option.isSome_some,Nat.zero_add] at hlook;have HCT:=hid (contains_any x.B W2 v within name HA2.out (by omega))
 rw [decide_eq_false hm] at HCT;obtain ⟨cd,fd,hmd,hdn⟩:=HS2.out.done;have hlkd:=hmd.lookOk Tryz.underlying103 (zero_rd W2) HK.out;have hcd:=HE2.out.d.at_ 0;have hfd:fd (.string (ba name))=none:=by
  obtain ⟨c',f',k1,k2⟩:=hs.done;have e1:=hdone c' f' k1 k2;have hb3:=(k1.kept (HB2.out.block _ k1.inside)).lookOk Tryz.underlying103 (zero_rd W2) HK.out;rw [hb3] at hlkd;simp only [Result.ok.injEq,Value.tuple.injEq,and_true] at hlkd;have e2:=congrArg (fun a:Array Value=>a.toList) hlkd
  simp only [List.cons.injEq,Value.bool.injEq,and_true] at e2;rw [e1] at e2
  cases hq:fd (.string (ba name)) with
  | none=>rfl
  | some u=>rw [hq] at e2;simp at e2
 rw [hfd] at hlkd;simp only [Option.getD_none,Option.isSome_none] at hlkd;obtain ⟨d,hd⟩:∃d:Nat,d=0:=⟨_,rfl⟩;obtain ⟨a,ha0⟩:∃a:Nat,a=0:=⟨_,rfl⟩;obtain ⟨b,hb0⟩:∃b:Nat,b=0:=⟨_,rfl⟩;have hzz:zR=.agg #[.int .i64 (d:Int),.int .i64 (a:Int),.int .i64 (b:Int)]:=by rw [hd,ha0,hb0];rfl
 rw [hzz] at hlkd;clear hd ha0 hb0 hzz hfd hdone;obtain ⟨W3,hW3⟩:∃W3,W2.alloc (.cells #[.int .i64 (d:Int),.int .i64 (a:Int),.int .i64 (b:Int)] 111)=W3:=⟨_,rfl⟩;have b3:Below W2.heap.size W2 W3:=hW3▸(Below.refl _ _).alloc (Nat.le_refl _) _;have r3:Has W3 (w.heap.size+2) 111 #[.int .i64 (d:Int),.int .i64 (a:Int),.int .i64 (b:Int)]:=hW3▸Has.fresh' W2 111 _ s2.symm;have HB3:=hid b3;have HL3:=hid (HS2.out.list.below b3);have HE3:=hid (HE2.out.below b3);have hcv3:W3.cell? ⟨w.heap.size+1,0,none⟩=some v:=(v2.stays b3).at_ 0;have hrd0:=r3.at_ 0;have hclb:=HE3.out.l.at_ 0;obtain ⟨lv,hLh,hLp⟩:=HL3.out;obtain ⟨A,c,hlv⟩:=hLp.form;obtain ⟨n,hnp⟩:∃n,ps.length=n:=⟨_,rfl⟩;rw [hnp] at hlv;subst hlv;have hcL:=hLh.at_ 0;obtain ⟨gf,of,cf,hfv,hgf,hcell⟩:=(hfi.stays (by have hq:=HLO.out.trans (b3.mono (Nat.le_trans hsz b2.size));rw [hBs] at hq;exact hq)).row (by omega)
 have hcf:=HE3.out.f.at_ 0;rw [hfv] at hcf;have htc:=(hcell j hj).2;rw [hjt] at htc;have hjl:(j:Int) < (fs.length:Int):=by omega
 have HLN0:Hid (Ln x fs w0 W3 within name v w.heap.size (w.heap.size+1) ps W3):=⟨HE3.out,HS2.out.below b3,n2.stays b3,v2.stays b3,own_below HA2.out b3,h64,Fr.refl _ _ _ _,HLO.out.trans (b3.mono (Nat.le_trans hsz b2.size)),fun e=>by have:=(own_inside ha _ e.symm).2;omega⟩
 have HCE:Hid (Calls Tryz.prog 45 #[.string (ba t),.func (.func 46) #[] #[ptrV x.rb,ptrV (w.heap.size+1),ptrV w.heap.size,ptrV x.lb]] W3 fun e W=>Out (readL fs (k+1) within name ps) e (Fr x.L x.D v.ownBlock W3 W∧Below x.B w0 W) (fun qs=>Ln x fs w0 W3 within name v w.heap.size (w.heap.size+1) qs W)):=by
  have hR:readL fs (k+1) within name ps=foldE (lineL (readL fs k (within++[name]))) (linesL t) ps:=by
   rw [←stepL_fold];unfold readL;rw [hf];simp only;rw [if_neg hm]
  rw [hR];refine lines_any t 46 _ (enters_of Tryz.func46 (by kernel_rfl) rfl) (Ln x fs w0 W3 within name v w.heap.size (w.heap.size+1)) (fun W=>Fr x.L x.D v.ownBlock W3 W∧Below x.B w0 W) (lineL (readL fs k (within++[name]))) (fun ps W W' h hb=>h.below hb) (fun ps W h=>hgd.kept (hBs▸h.low)) (fun qs W s hs2 h=>?_) ps W3 HLN0.out htx
  have hsl:s.length≤100000:=Nat.le_trans (linesL_len hs2) htx
  cases hp:pre incM s with
  | false=>exact tell_plain x fs w0 W3 k within name v _ _ qs s W h hsl hp
  | true=>exact tell_inc x fs w0 W3 k hrd within name v _ _ qs s W h hsl hp hk (hch.down hf hs2 hp)
 obtain ⟨g,HG⟩:∃g,Hid (readL fs (k+1) within name ps=g):=⟨_,rfl⟩;rw [HG.out] at HCE;rw [HG.out];have HMEM:=hid (findF_mem hf).1;have HN3:=hid hn;have HKK:=hid hk;have HFL:=hid hfl;have HNP:=hid hnp;have HN2:=hid n2;have HV2:=hid v2;obtain ⟨Av,cv,hv⟩:=own_form ha;obtain ⟨nv,hnv⟩:∃nv,within.length=nv:=⟨_,rfl⟩;rw [hnv] at hv;subst hv;have hn4:¬((nv:Int)=4):=by omega
 have HNV:=hid hnv;unfold ptrV at HCE hclb;unfold ptrV;generalize ba t=tx at htc HCE;generalize fs.length=nf at hcf hjl;clear he hs ha hch hb ba1 b2 n2 v2 hpl hf hm hpj hjt hj hdn hmd r3 b3 hLh hLp h64 hnp hcell hfv hgf htx hrd hgd hfi hBs hn hk hfl;go_enter Tryz.func42,Tryz.ntmps42
 go_wp2_with (go_at_call 43;refine HCT.out.mono ?_;rintro e1 w1 ⟨rfl,rfl⟩)
 refine HCE.out.mono ?_;intro e4 w4 h4
 cases g with
 | error c =>
  obtain ⟨rfl,hc,hf4,hb4⟩:=h4.of_err;have hcz:(c == 0)=false:=by simp [hc]
  have HC:=hid hc;have HF4:=hid hf4;have HB4:=hid hb4;clear h4 hc hf4 hb4;go_wp2;go_ret;exact ⟨Out.err rfl rfl HC.out trivial,(Fr.of_below (HB2.out.thenG HB3.out)).tr HF4.out,HB4.out⟩
 | ok rs =>
  obtain ⟨rfl,hl4⟩:=h4.of_ok;have HL4:=hid hl4;clear h4;obtain ⟨c4,f4,hm4,hd4⟩:=hl4.st.done;obtain ⟨v4,hv4,hp4⟩:=hl4.st.list;obtain ⟨A4,cp4,hv4e⟩:=hp4.form;obtain ⟨n4,hn4e⟩:∃n4,rs.length=n4:=⟨_,rfl⟩;rw [hn4e] at hv4e;subst hv4e;have HV4:=hid hv4;have HNE:=hid hn4e;have HM4:=hid hm4;obtain ⟨l4,hfl4,hrs4⟩:=readL_flat _ _ _ _ _ _ HG.out;have HD5:Hid (Done fs (fun y=>if y=.string (ba name) then some (rdV nv n n4) else f4 y) (if (f4 (.string (ba name))).isSome then c4 else c4+1) rs):=by
   have e1:=HNV.out;have e2:=HNP.out;have e3:=HN3.out;have e4:=HKK.out;refine Done.put (d:=nv) (a:=n) (b:=n4) hd4 HMEM.out (by omega) ?_ (Nat.le_of_eq hn4e.symm) ?_
   · rw [←hn4e,hrs4,List.length_append];omega
   · have e5:4 - nv=k+1:=by omega
     rw [e5,hfl4,←hn4e,hrs4,←e2,List.drop_left,List.length_append,Nat.add_sub_cancel_left,List.take_length]
  obtain ⟨w5,hst5,hm5,hg5⟩:=hm4.store (w:=w4.drew) Tryz.underlying103 (by have:=hd4.few;have:=HFL.out;omega) (v:=rdV nv n n4) HK.out
  have HST5:=hid hst5;have HM5:=hid hm5;have HG5:=hid hg5;clear hl4 hm4 hd4 hv4 hp4 hn4e hfl4 hrs4 hst5 hm5 hg5;go_wp2_with (fail)
  refine wp_region_noPanic ?_;refine wp_region_held_drew (S:=fun U=>Has U x.db 103 #[.map (some x.D)]∧Has U w.heap.size 9 #[.string (ba name)]∧Has U (w.heap.size+1) 34 #[.slice Av nv cv]∧Has U x.lb 30 #[ptrV x.L]∧Has U x.L 106 #[.slice A4 n4 cp4]) (by kernel_rfl) (⟨HL4.out.env.d,HL4.out.nbx,HL4.out.abx,HL4.out.env.l,HV4.out⟩) (fun hS=>?_)
  refine inI 0 ?_
  iterate 11
   refine stI (v:=?_) (by simp only [lkA,lkB,lkC];rfl) (by kernel_rfl) (fun _ _ _ h=>h) (by rfl) (by assumption) ?_ ?_
   rotate_left 1
   · intro w hSw
     have c1:=hSw.1.at_ 0;have c2:=hSw.2.1.at_ 0;have c3:=hSw.2.2.1.at_ 0;have c4:=hSw.2.2.2.1.at_ 0;have c5:=hSw.2.2.2.2.at_ 0;unfold ptrV at c4;go_simp
     with_reducible rfl
   simp only [Act.put,siA,siB,siC,Nat.reduceAdd]
  refine outI ?_;refine wpAnyH_ready (rs:=[11]) (by kernel_rfl) (by simp) ?_
  refine AllReadyH.cons (by simp only [lkA,lkB,lkC];rfl) (fun K hK=>?_) (AllReadyH.nil)
  refine step_update (by rfl) (.tmp 72) (.tmp 73) (.tmp 82) rfl (.map (some x.D)) (.string (ba name)) (rdV nv n n4) rfl rfl rfl HST5.out ?_
  have hz5:Has w5 x.db 103 #[.map (some x.D)]∧Has w5 w.heap.size 9 #[.string (ba name)]∧Has w5 (w.heap.size+1) 34 #[.slice Av nv cv]∧Has w5 x.lb 30 #[ptrV x.L]∧Has w5 x.L 106 #[.slice A4 n4 cp4]:=⟨Has.map (w:=w4.drew) HL4.out.env.d HM4.out HG5.out,Has.map (w:=w4.drew) HL4.out.nbx HM4.out HG5.out,Has.map (w:=w4.drew) HL4.out.abx HM4.out HG5.out,Has.map (w:=w4.drew) HL4.out.env.l HM4.out HG5.out,Has.map (w:=w4.drew) HV4.out HM4.out HG5.out⟩;refine hK.out _ _ hz5 (fun hS=>?_)
  clear hK K hS;refine wpAnyH_done (by kernel_rfl) ?_ _
  refine NoPanic.normal ?_;go_wp2;go_ret;have HG6:Hid (w4.grownBy w5 (some x.D)):=⟨HG5.out.os,HG5.out.tape,HG5.out.output,HG5.out.size,HG5.out.block⟩;refine ⟨Out.ok rfl rfl ⟨⟨HL4.out.st.list.map HM4.out HG6.out,⟨_,_,HM5.out,HD5.out⟩,HLK.out.low⟩,?_⟩,?_,?_⟩
  · exact HL4.out.ar.fr (Fr.of_map (L:=x.L) (r:=none) HM4.out HG6.out) (fun k _ e=>nomatch e)
  · exact (Fr.of_below (HB2.out.thenG HB3.out)).tr (HL4.out.fr.tr (Fr.of_map HM4.out HG6.out))
  · exact grown_below HG6.out HL4.out.low (fun k hk=>by injection hk with hk;rw [←hk];exact HE2.out.lowD) HL4.out.size
open Classical in
set_option maxHeartbeats 4000000 in
theorem read_more (x:Bx) (fs:Fl) (w0:World) (k:Nat) (hrd:ReadOk x fs w0 k) (hgd:Gd w0) (hfi:FilesIs w0 x.fv fs) (hBs:x.B=w0.heap.size) (within:List By) (name:By) (ps:List By) (v:Value) (w:World) (hk:within.length+1+k=4) (hnm:name.length≤1000000000000000) (he:Env x fs w) (hs:St x fs ps w) (ha:Ar x.B w v within) (hch:Chain fs within name) (h64:ps.length≤64) (hb:Below x.B w0 w) (t:By) (hf:findF fs name=some t) (hm:name∉within) (hn:within.length≤3) (hfl:fs.length≤1000) (htx:t.length≤100000) (d a b:Nat) (hdone:∀c f,MapZ w zR x.D c f→Done fs f c ps→f (.string (ba name))=some (rdV d a b)) (hnd:d < within.length) :
 Calls Tryz.prog 42 #[.string (ba name),v,ptrV x.tb,ptrV x.db,ptrV x.lb,ptrV x.fb,ptrV x.rb] w fun e W =>
  Out (readL fs (k+1) within name ps) e True (fun qs=>St x fs qs W∧Ar x.B W v within)∧Fr x.L x.D v.ownBlock w W∧Below x.B w0 W:=by
 have hsz:x.B≤w.heap.size:=by have:=hs.low;obtain ⟨_,q,_⟩:=hs.list;have:=q.inside;omega
 obtain ⟨Wa,hWa⟩:∃Wa,w.alloc (.cells #[.string (ba name)] 9)=Wa:=⟨_,rfl⟩;obtain ⟨W2,hW2⟩:∃W2,Wa.alloc (.cells #[v] 34)=W2:=⟨_,rfl⟩;have sa:Wa.heap.size=w.heap.size+1:=by rw [←hWa];simp
 have s2:W2.heap.size=w.heap.size+2:=by rw [←hW2];simp [sa]
 have ba1:Below w.heap.size w Wa:=hWa▸(Below.refl _ _).alloc (Nat.le_refl _) _;have b2:Below w.heap.size w W2:=hW2▸ba1.alloc (by omega) _
 have n2:Has W2 w.heap.size 9 #[.string (ba name)]:=hW2▸(hWa▸Has.fresh w 9 _:Has Wa w.heap.size 9 _).more _;have v2:Has W2 (w.heap.size+1) 34 #[v]:=hW2▸Has.fresh' Wa 34 _ sa.symm;have HE2:=hid (he.below b2);have HS2:=hid (hs.below b2);have HA2:Hid (Ar x.B W2 v within):=own_below ha b2;have HB2:=hid b2;have HLO:Hid (Below x.B w0 W2):=hb.trans (b2.mono hsz);have HSZ:=hid hsz;have HK:=hid (str_key name (by unfold maxLen;omega))
 have HLK:=hid hs;obtain ⟨cp,hpl⟩:=HE2.out.places;have hlook:=hpl.lookOk Tryz.underlying101 (zero_int W2) HK.out;have hct:=HE2.out.t.at_ 0;have hcn:=n2.at_ 0;have hcv:=v2.at_ 0;obtain ⟨j,hj,hpj,hjt⟩:=plF_some hf 0;rw [hpj] at hlook;simp only [Option.getD_some,Option.isSome_some,Nat.zero_add] at hlook;have HCT:=hid (contains_any x.B W2 v within name HA2.out (by omega))
 rw [decide_eq_false hm] at HCT;obtain ⟨cd,fd,hmd,hdn⟩:=HS2.out.done;have hlkd:=hmd.lookOk Tryz.underlying103 (zero_rd W2) HK.out;have hcd:=HE2.out.d.at_ 0;have hfd:fd (.string (ba name))=some (rdV d a b):=by
  obtain ⟨c',f',k1,k2⟩:=hs.done;have e1:=hdone c' f' k1 k2;have hb3:=(k1.kept (HB2.out.block _ k1.inside)).lookOk Tryz.underlying103 (zero_rd W2) HK.out;rw [hb3] at hlkd;simp only [Result.ok.injEq,Value.tuple.injEq,and_true] at hlkd;have e2:=congrArg (fun a:Array Value=>a.toList) hlkd
  simp only [List.cons.injEq,Value.bool.injEq,and_true] at e2;rw [e1] at e2;simp only [Option.getD_some,Option.isSome_some] at e2
  cases hq:fd (.string (ba name)) with
  | none=>rw [hq] at e2;simp at e2
  | some u=>rw [hq] at e2;simp at e2;rw [e2]
 rw [hfd] at hlkd;simp only [Option.getD_some,Option.isSome_some] at hlkd;unfold rdV at hlkd;have hnd2:¬((within.length:Int)≤(d:Int)):=by omega
 clear hfd hdone hnd;obtain ⟨W3,hW3⟩:∃W3,W2.alloc (.cells #[.int .i64 (d:Int),.int .i64 (a:Int),.int .i64 (b:Int)] 111)=W3:=⟨_,rfl⟩;have b3:Below W2.heap.size W2 W3:=hW3▸(Below.refl _ _).alloc (Nat.le_refl _) _;have r3:Has W3 (w.heap.size+2) 111 #[.int .i64 (d:Int),.int .i64 (a:Int),.int .i64 (b:Int)]:=hW3▸Has.fresh' W2 111 _ s2.symm;have HB3:=hid b3;have HL3:=hid (HS2.out.list.below b3);have HE3:=hid (HE2.out.below b3);have hcv3:W3.cell? ⟨w.heap.size+1,0,none⟩=some v:=(v2.stays b3).at_ 0;have hrd0:=r3.at_ 0;have hclb:=HE3.out.l.at_ 0;obtain ⟨lv,hLh,hLp⟩:=HL3.out;obtain ⟨A,c,hlv⟩:=hLp.form;obtain ⟨n,hnp⟩:∃n,ps.length=n:=⟨_,rfl⟩;rw [hnp] at hlv;subst hlv;have hcL:=hLh.at_ 0;obtain ⟨gf,of,cf,hfv,hgf,hcell⟩:=(hfi.stays (by have hq:=HLO.out.trans (b3.mono (Nat.le_trans hsz b2.size));rw [hBs] at hq;exact hq)).row (by omega)
 have hcf:=HE3.out.f.at_ 0;rw [hfv] at hcf;have htc:=(hcell j hj).2;rw [hjt] at htc;have hjl:(j:Int) < (fs.length:Int):=by omega
 have HLN0:Hid (Ln x fs w0 W3 within name v w.heap.size (w.heap.size+1) ps W3):=⟨HE3.out,HS2.out.below b3,n2.stays b3,v2.stays b3,own_below HA2.out b3,h64,Fr.refl _ _ _ _,HLO.out.trans (b3.mono (Nat.le_trans hsz b2.size)),fun e=>by have:=(own_inside ha _ e.symm).2;omega⟩
 have HCE:Hid (Calls Tryz.prog 45 #[.string (ba t),.func (.func 46) #[] #[ptrV x.rb,ptrV (w.heap.size+1),ptrV w.heap.size,ptrV x.lb]] W3 fun e W=>Out (readL fs (k+1) within name ps) e (Fr x.L x.D v.ownBlock W3 W∧Below x.B w0 W) (fun qs=>Ln x fs w0 W3 within name v w.heap.size (w.heap.size+1) qs W)):=by
  have hR:readL fs (k+1) within name ps=foldE (lineL (readL fs k (within++[name]))) (linesL t) ps:=by
   rw [←stepL_fold];unfold readL;rw [hf];simp only;rw [if_neg hm]
  rw [hR];refine lines_any t 46 _ (enters_of Tryz.func46 (by kernel_rfl) rfl) (Ln x fs w0 W3 within name v w.heap.size (w.heap.size+1)) (fun W=>Fr x.L x.D v.ownBlock W3 W∧Below x.B w0 W) (lineL (readL fs k (within++[name]))) (fun ps W W' h hb=>h.below hb) (fun ps W h=>hgd.kept (hBs▸h.low)) (fun qs W s hs2 h=>?_) ps W3 HLN0.out htx
  have hsl:s.length≤100000:=Nat.le_trans (linesL_len hs2) htx
  cases hp:pre incM s with
  | false=>exact tell_plain x fs w0 W3 k within name v _ _ qs s W h hsl hp
  | true=>exact tell_inc x fs w0 W3 k hrd within name v _ _ qs s W h hsl hp hk (hch.down hf hs2 hp)
 obtain ⟨g,HG⟩:∃g,Hid (readL fs (k+1) within name ps=g):=⟨_,rfl⟩;rw [HG.out] at HCE;rw [HG.out];have HMEM:=hid (findF_mem hf).1;have HN3:=hid hn;have HKK:=hid hk;have HFL:=hid hfl;have HNP:=hid hnp;have HN2:=hid n2;have HV2:=hid v2;obtain ⟨Av,cv,hv⟩:=own_form ha;obtain ⟨nv,hnv⟩:∃nv,within.length=nv:=⟨_,rfl⟩;rw [hnv] at hv;subst hv;rw [hnv] at hnd2;have hn4:¬((nv:Int)=4):=by omega
 have HNV:=hid hnv;unfold ptrV at HCE hclb;unfold ptrV;generalize ba t=tx at htc HCE;generalize fs.length=nf at hcf hjl;clear he hs ha hch hb ba1 b2 n2 v2 hpl hf hm hpj hjt hj hdn hmd r3 b3 hLh hLp h64 hnp hcell hfv hgf htx hrd hgd hfi hBs hn hk hfl;go_enter Tryz.func42,Tryz.ntmps42
 go_wp2_with (go_at_call 43;refine HCT.out.mono ?_;rintro e1 w1 ⟨rfl,rfl⟩)
 refine HCE.out.mono ?_;intro e4 w4 h4
 cases g with
 | error c =>
  obtain ⟨rfl,hc,hf4,hb4⟩:=h4.of_err;have hcz:(c == 0)=false:=by simp [hc]
  have HC:=hid hc;have HF4:=hid hf4;have HB4:=hid hb4;clear h4 hc hf4 hb4;go_wp2;go_ret;exact ⟨Out.err rfl rfl HC.out trivial,(Fr.of_below (HB2.out.thenG HB3.out)).tr HF4.out,HB4.out⟩
 | ok rs =>
  obtain ⟨rfl,hl4⟩:=h4.of_ok;have HL4:=hid hl4;clear h4;obtain ⟨c4,f4,hm4,hd4⟩:=hl4.st.done;obtain ⟨v4,hv4,hp4⟩:=hl4.st.list;obtain ⟨A4,cp4,hv4e⟩:=hp4.form;obtain ⟨n4,hn4e⟩:∃n4,rs.length=n4:=⟨_,rfl⟩;rw [hn4e] at hv4e;subst hv4e;have HV4:=hid hv4;have HNE:=hid hn4e;have HM4:=hid hm4;obtain ⟨l4,hfl4,hrs4⟩:=readL_flat _ _ _ _ _ _ HG.out;have HD5:Hid (Done fs (fun y=>if y=.string (ba name) then some (rdV nv n n4) else f4 y) (if (f4 (.string (ba name))).isSome then c4 else c4+1) rs):=by
   have e1:=HNV.out;have e2:=HNP.out;have e3:=HN3.out;have e4:=HKK.out;refine Done.put (d:=nv) (a:=n) (b:=n4) hd4 HMEM.out (by omega) ?_ (Nat.le_of_eq hn4e.symm) ?_
   · rw [←hn4e,hrs4,List.length_append];omega
   · have e5:4 - nv=k+1:=by omega
     rw [e5,hfl4,←hn4e,hrs4,←e2,List.drop_left,List.length_append,Nat.add_sub_cancel_left,List.take_length]
  obtain ⟨w5,hst5,hm5,hg5⟩:=hm4.store (w:=w4.drew) Tryz.underlying103 (by have:=hd4.few;have:=HFL.out;omega) (v:=rdV nv n n4) HK.out
  have HST5:=hid hst5;have HM5:=hid hm5;have HG5:=hid hg5;clear hl4 hm4 hd4 hv4 hp4 hn4e hfl4 hrs4 hst5 hm5 hg5;go_wp2_with (fail)
  refine wp_region_noPanic ?_;refine wp_region_held_drew (S:=fun U=>Has U x.db 103 #[.map (some x.D)]∧Has U w.heap.size 9 #[.string (ba name)]∧Has U (w.heap.size+1) 34 #[.slice Av nv cv]∧Has U x.lb 30 #[ptrV x.L]∧Has U x.L 106 #[.slice A4 n4 cp4]) (by kernel_rfl) (⟨HL4.out.env.d,HL4.out.nbx,HL4.out.abx,HL4.out.env.l,HV4.out⟩) (fun hS=>?_)
  refine inI 0 ?_
  iterate 11
   refine stI (v:=?_) (by simp only [lkA,lkB,lkC];rfl) (by kernel_rfl) (fun _ _ _ h=>h) (by rfl) (by assumption) ?_ ?_
   rotate_left 1
   · intro w hSw
     have c1:=hSw.1.at_ 0;have c2:=hSw.2.1.at_ 0;have c3:=hSw.2.2.1.at_ 0;have c4:=hSw.2.2.2.1.at_ 0;have c5:=hSw.2.2.2.2.at_ 0;unfold ptrV at c4;go_simp
     with_reducible rfl
   simp only [Act.put,siA,siB,siC,Nat.reduceAdd]
  refine outI ?_;refine wpAnyH_ready (rs:=[11]) (by kernel_rfl) (by simp) ?_
  refine AllReadyH.cons (by simp only [lkA,lkB,lkC];rfl) (fun K hK=>?_) (AllReadyH.nil)
  refine step_update (by rfl) (.tmp 72) (.tmp 73) (.tmp 82) rfl (.map (some x.D)) (.string (ba name)) (rdV nv n n4) rfl rfl rfl HST5.out ?_
  have hz5:Has w5 x.db 103 #[.map (some x.D)]∧Has w5 w.heap.size 9 #[.string (ba name)]∧Has w5 (w.heap.size+1) 34 #[.slice Av nv cv]∧Has w5 x.lb 30 #[ptrV x.L]∧Has w5 x.L 106 #[.slice A4 n4 cp4]:=⟨Has.map (w:=w4.drew) HL4.out.env.d HM4.out HG5.out,Has.map (w:=w4.drew) HL4.out.nbx HM4.out HG5.out,Has.map (w:=w4.drew) HL4.out.abx HM4.out HG5.out,Has.map (w:=w4.drew) HL4.out.env.l HM4.out HG5.out,Has.map (w:=w4.drew) HV4.out HM4.out HG5.out⟩;refine hK.out _ _ hz5 (fun hS=>?_)
  clear hK K hS;refine wpAnyH_done (by kernel_rfl) ?_ _
  refine NoPanic.normal ?_;go_wp2;go_ret;have HG6:Hid (w4.grownBy w5 (some x.D)):=⟨HG5.out.os,HG5.out.tape,HG5.out.output,HG5.out.size,HG5.out.block⟩;refine ⟨Out.ok rfl rfl ⟨⟨HL4.out.st.list.map HM4.out HG6.out,⟨_,_,HM5.out,HD5.out⟩,HLK.out.low⟩,?_⟩,?_,?_⟩
  · exact HL4.out.ar.fr (Fr.of_map (L:=x.L) (r:=none) HM4.out HG6.out) (fun k _ e=>nomatch e)
  · exact (Fr.of_below (HB2.out.thenG HB3.out)).tr (HL4.out.fr.tr (Fr.of_map HM4.out HG6.out))
  · exact grown_below HG6.out HL4.out.low (fun k hk=>by injection hk with hk;rw [←hk];exact HE2.out.lowD) HL4.out.size
theorem read_ok (x:Bx) (fs:Fl) (w0:World) (hgd:Gd w0) (hfi:FilesIs w0 x.fv fs) (hBs:x.B=w0.heap.size) (hfl:fs.length≤1000) (htx:∀i (hi:i < fs.length),fs[i].2.length≤100000):∀k,ReadOk x fs w0 k:=by
 intro k;induction k with
 | zero =>
  intro within name ps v w hk hnm he hs ha hch h64 hb
  cases hf:findF fs name with
  | none=>exact read_none x fs w0 0 within name ps v w hk hnm he hs ha hch h64 hb hf
  | some t =>
   by_cases hm:name∈within
   · exact read_busy x fs w0 0 within name ps v w hk hnm he hs ha hch h64 hb t hf hm
   · exact read_deep x fs w0 0 within name ps v w hk hnm he hs ha hch h64 hb t hf hm rfl
 | succ k ih =>
  intro within name ps v w hk hnm he hs ha hch h64 hb
  cases hf:findF fs name with
  | none=>exact read_none x fs w0 (k+1) within name ps v w hk hnm he hs ha hch h64 hb hf
  | some t =>
   by_cases hm:name∈within
   · exact read_busy x fs w0 (k+1) within name ps v w hk hnm he hs ha hch h64 hb t hf hm
   · have ht:t.length≤100000:=by obtain ⟨_,i,hi,rfl⟩:=findF_mem hf;exact htx i hi
     obtain ⟨c,f,h1,h2⟩:=hs.done;have hkey:=str_key name (by unfold maxLen;omega)
     have uniq:∀c' f',MapZ w zR x.D c' f'→Done fs f' c' ps→f' (.string (ba name))=f (.string (ba name)):=by
      intro c' f' k1 k2;have a1:=k1.lookOk Tryz.underlying103 (zero_rd w) hkey;have a2:=h1.lookOk Tryz.underlying103 (zero_rd w) hkey;rw [a1] at a2;simp only [Result.ok.injEq,Value.tuple.injEq,and_true] at a2;have e2:=congrArg (fun a:Array Value=>a.toList) a2
      simp only [List.cons.injEq,Value.bool.injEq,and_true] at e2
      cases p:f' (.string (ba name)) with
      | none =>
       cases q:f (.string (ba name)) with
       | none=>rfl
       | some u=>rw [p,q] at e2;simp at e2
      | some u' =>
       cases q:f (.string (ba name)) with
       | none=>rw [p,q] at e2;simp at e2
       | some u=>rw [p,q] at e2;simp at e2;rw [e2]
     cases hq:f (.string (ba name)) with
     | none=>exact read_new x fs w0 k ih hgd hfi hBs within name ps v w (by omega) hnm he hs ha hch h64 hb t hf hm (by omega) hfl ht (fun c' f' k1 k2=>(uniq c' f' k1 k2).trans hq)
     | some u =>
      obtain ⟨d,a,b,rfl,_⟩:=h2.1 name u hq;by_cases hd:within.length≤d
      · exact read_hit x fs w0 (k+1) within name ps v w hk hnm he hs ha hch h64 hb t hf hm (by omega) hfl d a b (fun c' f' k1 k2=>(uniq c' f' k1 k2).trans hq) hd
      · exact read_more x fs w0 k ih hgd hfi hBs within name ps v w (by omega) hnm he hs ha hch h64 hb t hf hm (by omega) hfl ht d a b (fun c' f' k1 k2=>(uniq c' f' k1 k2).trans hq) (by omega)
end Go.Proofs.YtahkcemdbfjilaaGreatDoor.Glob
namespace Go.Proofs.YtahkcemdbfjilaaGreatDoor.Glob
open Go.RowKit Go.Maps
def ParseOut (B:Nat) (fs:Fl) (name:By) (e:Ending) (W:World):Prop :=
 match readL fs 4 [] name [] with
 | .error c=>e=.returned (.tuple #[.pointer none,.int .i64 c])∧c≠0
 | .ok qs=>∃L,e=.returned (.tuple #[ptrV L,.int .i64 0])∧B≤L∧ListIs B W L qs∧qs.length≤64
def bx (w w1:World) (pm:Nat) (fv:Value):Bx:=⟨w1.heap.size,w1.heap.size+1+1,w1.heap.size+1+1+1+1,w.heap.size,w1.heap.size+1+1+1+1+1,w1.heap.size+1+1+1,w1.heap.size+1,pm,w.heap.size,fv⟩
theorem env_made {w W0 w1:World} {pm c:Nat} {fv:Value} {fs:Fl} (b0:Below w.heap.size w W0) (_s0:W0.heap.size=w.heap.size+1) (f0:Has W0 w.heap.size 23 #[fv]) (hb1:Below W0.heap.size W0 w1) (hf:FilesIs w1 fv fs) (hm:MapZ w1 (.int .i64 0) pm c (plF fs 0)) :
 ∀W,W=((((((w1.alloc (Obj.cells #[Value.map (some pm)] 101)).alloc (Obj.map #[] 0)).alloc (Obj.cells #[Value.map (some (w1.heap.size+1))] 103)).alloc (Obj.cells #[Value.slice none 0 0] 106)).alloc (Obj.cells #[ptrV (w1.heap.size+1+1+1)] 30)).alloc (Obj.cells #[readV (bx w w1 pm fv)] 107)) →
 Env (bx w w1 pm fv) fs W∧St (bx w w1 pm fv) fs [] W∧Below w.heap.size w W:=by
 intro W hW;have B1:Below w.heap.size w w1:=b0.thenG hb1;have f1:Has w1 w.heap.size 23 #[fv]:=f0.stays hb1;obtain ⟨Wa,ha⟩:∃Wa,w1.alloc (Obj.cells #[Value.map (some pm)] 101)=Wa:=⟨_,rfl⟩;obtain ⟨Wb,hb⟩:∃Wb,Wa.alloc (Obj.map #[] 0)=Wb:=⟨_,rfl⟩;obtain ⟨Wc,hc⟩:∃Wc,Wb.alloc (Obj.cells #[Value.map (some (w1.heap.size+1))] 103)=Wc:=⟨_,rfl⟩;obtain ⟨Wd,hd⟩:∃Wd,Wc.alloc (Obj.cells #[Value.slice none 0 0] 106)=Wd:=⟨_,rfl⟩;obtain ⟨We,he⟩:∃We,Wd.alloc (Obj.cells #[ptrV (w1.heap.size+1+1+1)] 30)=We:=⟨_,rfl⟩;rw [ha,hb,hc,hd,he] at hW;have sa:Wa.heap.size=w1.heap.size+1:=by rw [←ha];simp
 have sb:Wb.heap.size=w1.heap.size+1+1:=by rw [←hb];simp [sa]
 have sc:Wc.heap.size=w1.heap.size+1+1+1:=by rw [←hc];simp [sb]
 have sd:Wd.heap.size=w1.heap.size+1+1+1+1:=by rw [←hd];simp [sc]
 have se:We.heap.size=w1.heap.size+1+1+1+1+1:=by rw [←he];simp [sd]
 have ba:Below w1.heap.size w1 Wa:=ha▸(Below.refl _ _).alloc (Nat.le_refl _) _;have bb:Below Wa.heap.size Wa Wb:=hb▸(Below.refl _ _).alloc (Nat.le_refl _) _;have bc:Below Wb.heap.size Wb Wc:=hc▸(Below.refl _ _).alloc (Nat.le_refl _) _;have bd:Below Wc.heap.size Wc Wd:=hd▸(Below.refl _ _).alloc (Nat.le_refl _) _;have be:Below Wd.heap.size Wd We:=he▸(Below.refl _ _).alloc (Nat.le_refl _) _;have bf:Below We.heap.size We W:=hW▸(Below.refl _ _).alloc (Nat.le_refl _) _;have be2:=be.thenG bf;have bd2:=bd.thenG be2;have bc2:=bc.thenG bd2;have bb2:=bb.thenG bc2;have ba2:=ba.thenG bb2;have h1:Has W w1.heap.size 101 #[.map (some pm)]:=(ha▸Has.fresh w1 101 _:Has Wa w1.heap.size 101 _).stays bb2;have h2:MapZ W zR (w1.heap.size+1) 0 (fun _=>none):=by
  have:=MapZ.made Wa zR;rw [hb,sa] at this;exact this.kept (bc2.block _ this.inside)
 have h3:Has W (w1.heap.size+1+1) 103 #[.map (some (w1.heap.size+1))]:=(hc▸Has.fresh' Wb 103 _ sb.symm:Has Wc (w1.heap.size+1+1) 103 _).stays bd2;have h4:Has W (w1.heap.size+1+1+1) 106 #[.slice none 0 0]:=(hd▸Has.fresh' Wc 106 _ sc.symm:Has Wd (w1.heap.size+1+1+1) 106 _).stays be2;have h5:Has W (w1.heap.size+1+1+1+1) 30 #[ptrV (w1.heap.size+1+1+1)]:=(he▸Has.fresh' Wd 30 _ sd.symm:Has We (w1.heap.size+1+1+1+1) 30 _).stays bf;have h6:Has W (w1.heap.size+1+1+1+1+1) 107 #[readV (bx w w1 pm fv)]:=hW▸Has.fresh' We 107 _ se.symm;have hpm:=hm.inside;have hsz:=B1.size;refine ⟨⟨h1,h3,h5,f1.stays ba2,h6,⟨c,hm.kept (ba2.block _ hm.inside)⟩,?_,?_⟩,⟨⟨_,h4,Pats.nil _ _⟩,⟨0,_,h2,Done.none _ _⟩,?_⟩,B1.thenG ba2⟩
 · show pm≠w1.heap.size+1;omega
 · show w.heap.size≤w1.heap.size+1;omega
 · show w.heap.size≤w1.heap.size+1+1+1;omega
set_option maxHeartbeats 4000000 in
theorem iparse_any (fs:Fl) (name:By) (v:Value) (w:World) (hgd:Gd w) (hf:FilesIs w v fs) (hfl:fs.length≤1000) (hn:∀i (hi:i < fs.length),fs[i].1.length≤100000) (htx:∀i (hi:i < fs.length),fs[i].2.length≤100000) (hnm:name.length≤1000000000000000) :
 Calls Tryz.prog 11 #[v,.string (ba name)] w fun e W=>ParseOut w.heap.size fs name e W∧Below w.heap.size w W:=by
 have hmm:=@run_makeMap Tryz.prog;have hmf:∀(fn:Fn) (first cap:Array Value) (w:World),(Instr.makeFunc fn first cap).run Tryz.prog w=.ok (.func fn first cap) w:=fun _ _ _ _=>rfl
 obtain ⟨W0,hW0⟩:∃W0,w.alloc (.cells #[v] 23)=W0:=⟨_,rfl⟩;have b0:Below w.heap.size w W0:=hW0▸(Below.refl _ _).alloc (Nat.le_refl _) _;have f0:Has W0 w.heap.size 23 #[v]:=hW0▸Has.fresh _ _ _;have s0:W0.heap.size=w.heap.size+1:=by rw [←hW0];simp
 have HPL:=hid (places_any v fs W0 (hf.stays b0) hfl hn);have HF:=hid (hf.stays b0);have HB0:=hid b0;have HF0:=hid f0;have HGD:=hid hgd;have HRD:=hid (fun x (hv:x.fv=v) (h:x.B=w.heap.size)=>read_ok x fs w hgd (by rw [hv];exact hf) h hfl htx 4)
 have HNM:=hid hnm;obtain ⟨A,cp,hv⟩:=hf.form;obtain ⟨nf,hnf⟩:∃nf,fs.length=nf:=⟨_,rfl⟩;rw [hnf] at hv;subst hv;have cf0:=f0.at_ 0;clear hf hn htx hfl hgd hnm f0 b0;go_enter Tryz.func11,Tryz.ntmps11
 go_wp2_with (fail)
 refine HPL.out.mono ?_;rintro e1 w1 ⟨⟨pm,c,rfl,hpm,hm⟩,hb1⟩;have HM1:=hid hm;have HB1:=hid hb1;have HPM:=hid hpm;clear hm hb1 hpm;obtain ⟨W6,hW6⟩:∃W,W=((((((w1.alloc (Obj.cells #[Value.map (some pm)] 101)).alloc (Obj.map #[] 0)).alloc (Obj.cells #[Value.map (some (w1.heap.size+1))] 103)).alloc (Obj.cells #[Value.slice none 0 0] 106)).alloc (Obj.cells #[ptrV (w1.heap.size+1+1+1)] 30)).alloc (Obj.cells #[readV (bx w w1 pm (.slice A nf cp))] 107)):=⟨_,rfl⟩;obtain ⟨HEV,HST,HBW⟩:=env_made (fs:=fs) HB0.out s0 HF0.out HB1.out (HF.out.stays HB1.out) HM1.out W6 hW6;have HEV:=hid HEV;have HST:=hid HST;have HBW:=hid HBW;have HCR:=hid (HRD.out (bx w w1 pm (.slice A nf cp)) rfl rfl [] name [] (.slice none 0 0) W6 rfl HNM.out HEV.out HST.out (World.ownsRow_nil _ _ _ _) (Chain.nil _ _) (by simp) HBW.out)
 obtain ⟨g,HG⟩:∃g,Hid (readL fs 4 [] name []=g):=⟨_,rfl⟩;rw [HG.out] at HCR;unfold readV ptrV bx at hW6;dsimp only at hW6;unfold ptrV at HCR;go_wp2_with (fail)
 rw [←hW6];refine HCR.out.mono ?_;intro e6 w6 h6;obtain ⟨h6,hf6,hb6⟩:=h6;have HLB:Hid (Has w6 (w1.heap.size+1+1+1+1) 30 #[ptrV (w1.heap.size+1+1+1)]):=(HEV.out.fr hf6).l;have HB6:=hid hb6;have hclb:=HLB.out.at_ 0;unfold ptrV at hclb;clear hf6 hb6
 cases g with
 | error c =>
  obtain ⟨rfl,hc,_⟩:=h6.of_err;have hcz:(c == 0)=false:=by simp [hc]
  have HC:=hid hc;clear h6 hc;go_wp2;go_ret2;refine ⟨?_,HB6.out⟩;unfold ParseOut;rw [HG.out];exact ⟨rfl,HC.out⟩
 | ok rs =>
  obtain ⟨rfl,hs6,_⟩:=h6.of_ok;have HS6:=hid hs6;clear h6 hs6;go_wp2;go_ret2;refine ⟨?_,HB6.out⟩;unfold ParseOut;rw [HG.out];exact ⟨_,rfl,HS6.out.low,HS6.out.list,readL_64 _ _ _ _ _ _ HG.out (by simp)⟩
end Go.Proofs.YtahkcemdbfjilaaGreatDoor.Glob
