/- The law WalkItems, proved: the item of any path, and what Each tells up to any number of steps, are the document's. No conditions beyond the card's. -/
import Derived.Test.YtahkcemdbfjilaaGreatDoorIt46
set_option linter.unusedSimpArgs false
set_option linter.unusedVariables false
set_option maxRecDepth 100000
namespace Go.Proofs.YtahkcemdbfjilaaGreatDoor
open Go.ChangeShapes Go.WideShapes Go.ChangeAt Go.ChangeMaps Go.WideElems Go.RowKit Go.Deep
theorem items_lifted (os:Os) (started:os.Started) (H:Type) (enc:TypeId × Value→H) :
 ReturnsInHanded {} Tryz.checked os 4 .any (fun w args=>(Rows.walkItemsSpec.pre enc Tryz.prog Tryz.f4 [] false w args∧laidMetH Tryz.prog laidW w)∧sizedMet enc Tryz.prog Tryz.f4 (OpenSpec.ofChange Rows.walkItemsSpec) false w args)
  (Rows.walkItemsSpec.post enc Tryz.prog Tryz.f4 false true false false):=by
 refine handed_shaped (C:=Tryz.checked) (X:=fun w _=>laidMetH Tryz.prog laidW w) (fun _ _ _ hh h=>h.of_heap hh) own started (by kernel_rfl) Tryz.func4
  (ChangeSpec.witness_shaped (enc:=enc) (C:=Tryz.checked) (os:=os) (X:=fun w _=>laidMetH Tryz.prog laidW w) false (World.laidAll Tryz.prog os laidW) #[.slice none 0 0,.string ⟨#[]⟩,.string ⟨#[]⟩,.int .i64 0] 40 (World.laidAll_os _ _ _) (World.shaped_of_ZipB (by kernel_rfl) (by kernel_rfl)) (by kernel_rfl) (by kernel_rfl) (by kernel_rfl) (laid_met os _)) ?_
 intro W base args ds gs before hval0 hW hreach hsh hL;have hval:∀(j:Nat) t v,Tryz.f4.params[j]? = some t→args[j]? = some v→Value.okWide Tryz.prog W .any base t v:=hval0;have hW':=hW;obtain ⟨p,q,hA0,hV,rfl,hfz,hnd⟩:=hW;have hA:DataW.TrodAll enc Tryz.prog W 0 (fun _=>true) true Tryz.f4.params.toList args.toList ds p:=hA0
 rw [Tryz.params4] at hA hval;obtain ⟨v0,v1,v2,v3,d0,d1,d2,d3,p0,p1,p2,p3,rfl,rfl,rfl,h0,h1,h2,h3⟩:=trodAll_four hA;obtain ⟨rfl,rfl⟩:=trodVars_none hV;obtain ⟨A0,n0,cap0,bb0,off0,xs0,rfl,hI0,hn0⟩:=open_puts (hval 0 22 v0 rfl rfl) h0 (fun z hz=>of_decide_eq_true (List.all_eq_true.1 hreach z (DataW.weights_mem_each (j:=0) (t:=22) (d:=d0) (by rw [Tryz.params4];rfl) (by rfl) z hz)))
 obtain ⟨s1,rfl,hd1,hp1,hm1⟩:=open_string Tryz.underlying9 (hval 1 9 v1 rfl rfl) h1;obtain ⟨s2,rfl,hd2,hp2,hm2⟩:=open_string Tryz.underlying9 (hval 2 9 v2 rfl rfl) h2;obtain ⟨i3,rfl,hd3,hp3,hm3⟩:=open_int Tryz.underlying3 (hval 3 3 v3 rfl rfl) h3;have hlt:∀x∈(p0++p1++p2++p3)++[],x.block < W.heap.size:=fun x hx=>hW'.lt x hx
 have hgd:=gd_of hsh;have hz:∀z∈d1.weights Tryz.prog 9,z≤reachBytes:=fun z hz=>of_decide_eq_true (List.all_eq_true.1 hreach z (DataW.weights_mem_each (j:=1) (t:=9) (d:=d1) (by rw [Tryz.params4];rfl) (by rfl) z hz))
 have hsl:(tl s1).length≤140737488355328:=by
  have:=hz s1.data.toList.length (by rw [hd1];simp [DataW.weights])
  rw [reach_is] at this;show s1.data.toList.length≤_;omega
 have hz2:∀z∈d2.weights Tryz.prog 9,z≤reachBytes:=fun z hz=>of_decide_eq_true (List.all_eq_true.1 hreach z (DataW.weights_mem_each (j:=2) (t:=9) (d:=d2) (by rw [Tryz.params4];rfl) (by rfl) z hz))
 have hsl2:(tl s2).length≤140737488355328:=by
  have:=hz2 s2.data.toList.length (by rw [hd2];simp [DataW.weights])
  rw [reach_is] at this;show s2.data.toList.length≤_;omega
 have key:=items_law (cap:=cap0) W hI0 hn0 hgd (tab_of hL) (tl s1) (tl s2) hsl hsl2 i3;have e1:kS (tl s1)=.string s1:=by show Value.string (ba (tl s1))=_;rw [ba_tl]
 have e2:kS (tl s2)=.string s2:=by show Value.string (ba (tl s2))=_;rw [ba_tl]
 rw [e1,e2] at key;refine key.mono fun e W' ⟨he,hb⟩=>?_
 subst he;refine ⟨_,rfl,post_law (pa:=p0++(p1++(p2++p3))) rfl rfl hW' rfl hb ?_⟩;rw [Tryz.params4];exact trodAll_mk4 (Below.trod laidOut (by kernel_rfl) (of_decide_eq_true (by kernel_rfl)) h0 hb (fun x hx=>hlt x (by simp [hx]))) (Below.trod laidOut (by kernel_rfl) (of_decide_eq_true (by kernel_rfl)) h1 hb (fun x hx=>hlt x (by simp [hx]))) (Below.trod laidOut (by kernel_rfl) (of_decide_eq_true (by kernel_rfl)) h2 hb (fun x hx=>hlt x (by simp [hx]))) (Below.trod laidOut (by kernel_rfl) (of_decide_eq_true (by kernel_rfl)) h3 hb (fun x hx=>hlt x (by simp [hx])))
theorem items_holds:Rows.WalkItemsSaid :=
 OpenClaim.holds_of_wide 4 Tryz.f4 rfl rfl rfl rfl rfl rfl rfl ⟨rfl,rfl,rfl,rfl,rfl⟩ rfl rfl rfl rfl rfl (by kernel_rfl) Tryz.func4 (by kernel_rfl)
  (of_decide_eq_true (by kernel_rfl)) (by unfold Func.isWrapper;first | (rw [if_pos (by decide +kernel)];kernel_rfl) | (rw [if_neg (by decide +kernel)];exact ⟨rfl,rfl⟩))
  (fun os started H enc _=>items_lifted os started H enc)
theorem items_card:Rows.WalkItemsCardSaid :=
 Claim7.holds_tied_plain_at .later [] [.data, .data, .pinned] true (true, "1216c860bcd7e6bccceab7fedb0008ce5430f84bf76c7ab633c2b8ff50a25b22") false
  items_holds (fun _ h=>by cases h) (by kernel_rfl) (fun _ h=>by cases h) walkItems_row_tie rfl ⟨rfl,rfl⟩ (by kernel_rfl) rfl
  (fun f fn hf hfn=>by
    obtain rfl : f = 4 := Option.some.inj ((show Tryz.prog.funcNamed "caravan/caravanlaw17.WalkItems" = some 4 by kernel_rfl).symm.trans hf) |>.symm
    obtain rfl:fn=Tryz.f4:=(Option.some.inj (Tryz.func4.symm.trans hfn)).symm;exact ⟨by kernel_rfl,fun j t ht=>by
     rw [Tryz.params4] at ht;have hm:t∈[22,9,9,3]:=by simpa using Array.mem_of_getElem? ht
     have hall:([22,9,9,3].all fun u=>!Tryz.prog.wantsStandIn u)=true:=by kernel_rfl
     exact (show Tryz.prog.wantsStandIn t=false by simpa using List.all_eq_true.1 hall t hm)⟩)
  (by kernel_rfl)
end Go.Proofs.YtahkcemdbfjilaaGreatDoor
