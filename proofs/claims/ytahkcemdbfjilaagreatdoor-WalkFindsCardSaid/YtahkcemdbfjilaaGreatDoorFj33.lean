/- The law WalkFinds, proved: all that is found in a root, and what is passed over, are the document's. No conditions beyond the card's. -/
import Derived.Test.YtahkcemdbfjilaaGreatDoorFj00
import Derived.Test.YtahkcemdbfjilaaGreatDoorFj32
set_option linter.all false
set_option maxRecDepth 100000
set_option maxHeartbeats 32000000
namespace Go.Proofs.YtahkcemdbfjilaaGreatDoor
open Go.ChangeShapes Go.WideShapes Go.ChangeAt Go.ChangeMaps Go.WideElems Go.RowKit Go.Deep
def Dr {w:World} {A:Option Addr} {n c bb off:Nat} {fs:Glob.Fl} (h:Glob.kI w A n bb off fs):Glob.bO w (.slice A n c) fs :=
 ⟨A,c,bb,off,by rw [h.len],fun h0=>h.src (by rw [<-h.len];exact h0),h.at_⟩
def Yw (p:By):nK [] p=false:=by unfold nK Glob.hZ;split<;>rfl
def Sa {w:World} {A:Option Addr} {n c bb off:Nat} {fs:Glob.Fl} (hG:Gd w) (h:Glob.kI w A n bb off fs) (hl:fs.length<=10) (hs:∀f∈fs,f.1.length<=8000/\f.2.length<=8000) :
 ∃(ce:Int) (lo:Option (List By)) (qs:List By),qs.length<=64/\(∀s∈qs,Glob.perr s=0)/\(∀p,igB lo p=nK qs p) /\
  (∀W,qW w W->qC 11 #[.slice A n c,.string ⟨#[105]⟩] W fun e w'=>∃o,e=.returned (.tuple #[.pointer o,.int .i64 ce])/\rL w' (.pointer o) lo/\qW W w') /\
  (∀W,qW w W->qC 12 #[.slice A n c,.string ⟨#[105]⟩] W fun e w'=>∃A' n' k',e=.returned (.tuple #[.slice A' n' k',.int .i64 ce])/\Glob.Ar 0 w' (.slice A' n' k') qs/\qW W w'):=by
 have C1:=fun (W:World) (hb:qW w W)=>Glob.xU fs [105] _ W (hG.kept hb) (Dr (c:=c) (h.stays hb)) (by omega) (fun i hi=>by have:=(hs _ (List.getElem_mem hi)).1;omega) (fun i hi=>by have:=(hs _ (List.getElem_mem hi)).2;omega) (by decide)
 have C2:=fun (W:World) (hb:qW w W)=>Glob.Gp fs [105] _ W (Dr (c:=c) (h.stays hb)) (by omega) (fun i hi=>by have:=(hs _ (List.getElem_mem hi)).2;omega)
 unfold Glob.kD at C1;unfold Glob.nZ at C2
 cases hr:Glob.readL fs 4 [] [105] [] with
 | error ce =>
  rw [hr] at C1 C2;refine ⟨ce,none,[],by simp,(fun s h=>by cases h),fun p=>(Yw p).symm,fun W hb=>(C1 W hb).mono ?_,fun W hb=>(C2 W hb).mono ?_⟩
  . rintro e w' ⟨h1,h2⟩
    exact ⟨none,h1.1,.none,h2⟩
  rintro e w' ⟨h1,h2⟩;exact ⟨none,0,0,h1.1,World.ownsRow_nil _ _ _ _,h2⟩
 | ok qs =>
  rw [hr] at C1 C2;refine ⟨0,some qs,qs,Glob.pL _ _ _ _ _ _ hr (by simp),Glob.Lx _ _ _ _ _ _ hr (fun s h=>by cases h),fun p=>rfl,fun W hb=>(C1 W hb).mono ?_,fun W hb=>(C2 W hb).mono ?_⟩
  . rintro e w' ⟨h1,h2⟩
    obtain ⟨L,a1,_,a3,a4⟩:=h1;exact ⟨some ⟨L,0,none⟩,a1,.some _ L _ a3 a4,h2⟩
  rintro e w' ⟨h1,h2⟩;obtain ⟨r,a1,a2⟩:=h1;obtain ⟨A',k',rfl⟩:=Glob.aO a2;exact ⟨A',_,k',a1,a2,h2⟩
def Cq (os:Os) (started:os.Started) (H:Type) (enc:TypeId × Value->H) :
 ReturnsInHanded {} Tryz.checked os 3 .any (fun w args=>(Rows.walkFindsSpec.pre enc Tryz.prog Tryz.f3 [] false w args/\laidMetH Tryz.prog oF w)/\sizedMet enc Tryz.prog Tryz.f3 (OpenSpec.ofChange Rows.walkFindsSpec) false w args)
  (Rows.walkFindsSpec.post enc Tryz.prog Tryz.f3 false true false false):=by
 refine Bi (C:=Tryz.checked) (X:=fun w _=>laidMetH Tryz.prog oF w) (fun _ _ _ hh h=>h.of_heap hh) own started (by kernel_rfl) Tryz.func3
  (ChangeSpec.witness_shaped (enc:=enc) (C:=Tryz.checked) (os:=os) (X:=fun w _=>laidMetH Tryz.prog oF w) false (World.laidAll Tryz.prog os oF) #[.slice none 0 0,.string ⟨#[]⟩,.slice none 0 0] 40 (World.laidAll_os _ _ _) (World.shaped_of_ZipB (by kernel_rfl) (by kernel_rfl)) (by kernel_rfl) (by kernel_rfl) (by kernel_rfl) (Ul os _)) ?_
 intro W base args ds gs before hval0 hW hreach FU hL;have ya:∀(j:Nat) t v,Tryz.f3.params[j]? = some t->args[j]? = some v->Value.okWide Tryz.prog W .any base t v:=hval0;have hW':=hW;obtain ⟨p,q,VS,hV,rfl,hfz,LM⟩:=hW;have hA:DataW.TrodAll enc Tryz.prog W 0 (fun _=>true) true Tryz.f3.params.toList args.toList ds p:=VS;rw [Tryz.params3] at hA ya;obtain ⟨v0,v1,v2,d0,d1,d2,p0,p1,p2,rfl,rfl,rfl,h0,h1,h2⟩:=trodAll_three hA;obtain ⟨rfl,rfl⟩:=trodVars_none hV;obtain ⟨A0,n0,cap0,bb0,off0,xs0,rfl,hI0,UM⟩:=Nx (ya 0 22 v0 rfl rfl) h0 (fun z hz=>of_decide_eq_true (List.all_eq_true.1 hreach z (DataW.weights_mem_each (j:=0) (t:=22) (d:=d0) (by rw [Tryz.params3];rfl) (by rfl) z hz)));obtain ⟨s1,rfl,TM,PW,IK⟩:=open_string Tryz.underlying9 (ya 1 9 v1 rfl rfl) h1;obtain ⟨A2,n2,cap2,oe,off2,fs2,rfl,hI2,hfb2,AG⟩:=Ix (ya 2 23 v2 rfl rfl) h2 (fun z hz=>of_decide_eq_true (List.all_eq_true.1 hreach z (DataW.weights_mem_each (j:=2) (t:=23) (d:=d2) (by rw [Tryz.params3];rfl) (by rfl) z hz)));have d8:∀x∈(p0++p1++p2)++[],x.block < W.heap.size:=fun x hx=>hW'.lt x hx
 have O6:=jo FU;have hz:∀z∈d1.weights Tryz.prog 9,z<=reachBytes:=fun z hz=>of_decide_eq_true (List.all_eq_true.1 hreach z (DataW.weights_mem_each (j:=1) (t:=9) (d:=d1) (by rw [Tryz.params3];rfl) (by rfl) z hz))
 have ql:(tl s1).length<=140737488355328:=by
  have:=hz s1.data.toList.length (by rw [TM];simp [DataW.weights]);rw [nN] at this;show s1.data.toList.length<=_;omega
 have key:=Nz (cap:=cap0) (cap2:=cap2) W hI0 hI2 hfb2 UM AG O6 (fe hL) (tl s1) ql (fun hlb=>by
  obtain ⟨_,g2,_,g4⟩:=uM hlb;exact Sa O6 hI2 g2 g4)
 have e1:kS (tl s1)=.string s1:=by show Value.string (ba (tl s1))=_;rw [pW]
 rw [e1] at key;refine key.mono fun e W' ⟨he,hb⟩=>?_
 subst he;refine ⟨_,rfl,Vt (pa:=p0++(p1++p2)) rfl rfl hW' rfl hb ?_⟩;rw [Tryz.params3];exact trodAll_mk3 (Below.trod laidOut (by kernel_rfl) (of_decide_eq_true (by kernel_rfl)) h0 hb (fun x hx=>d8 x (by simp [hx]))) (Below.trod laidOut (by kernel_rfl) (of_decide_eq_true (by kernel_rfl)) h1 hb (fun x hx=>d8 x (by simp [hx]))) (Below.trod laidOut (by kernel_rfl) (of_decide_eq_true (by kernel_rfl)) h2 hb (fun x hx=>d8 x (by simp [hx])))
def Fc:Rows.WalkFindsSaid :=
 OpenClaim.holds_of_wide 3 Tryz.f3 rfl rfl rfl rfl rfl rfl rfl ⟨rfl,rfl,rfl,rfl,rfl⟩ rfl rfl rfl rfl rfl (by kernel_rfl) Tryz.func3 (by kernel_rfl)
  (of_decide_eq_true (by kernel_rfl)) (by unfold Func.isWrapper;first | (rw [if_pos (by decide +kernel)];kernel_rfl) | (rw [if_neg (by decide +kernel)];exact ⟨rfl,rfl⟩))
  (fun os started H enc _=>Cq os started H enc)
theorem finds_card:Rows.WalkFindsCardSaid :=
 Claim7.holds_tied_plain_at .later [] [.data, .data, .pinned] true (true, "1216c860bcd7e6bccceab7fedb0008ce5430f84bf76c7ab633c2b8ff50a25b22") false
  Fc (fun _ h=>by cases h) (by kernel_rfl) (fun _ h=>by cases h) walkFinds_row_tie rfl ⟨rfl,rfl⟩ (by kernel_rfl) rfl
  (fun f fn hf SZ=>by
    obtain rfl : f = 3 := Option.some.inj ((show Tryz.prog.funcNamed "caravan/caravanlaw17.WalkFinds" = some 3 by kernel_rfl).symm.trans hf) |>.symm
    obtain rfl:fn=Tryz.f3:=(Option.some.inj (Tryz.func3.symm.trans SZ)).symm;exact ⟨by kernel_rfl,fun j t ht=>by
     rw [Tryz.params3] at ht;have hm:t∈[22,9,23]:=by simpa using Array.mem_of_getElem? ht
     have hall:([22,9,23].all fun u=>!Tryz.prog.wantsStandIn u)=true:=by kernel_rfl
     exact (show Tryz.prog.wantsStandIn t=false by simpa using List.all_eq_true.1 hall t hm)⟩)
  (by kernel_rfl)
end Go.Proofs.YtahkcemdbfjilaaGreatDoor
