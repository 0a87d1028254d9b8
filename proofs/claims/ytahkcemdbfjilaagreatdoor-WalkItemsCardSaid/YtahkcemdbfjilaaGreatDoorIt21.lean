/- Several texts in one. Conditions: those said at each. -/
import Derived.Test.YtahkcemdbfjilaaGreatDoorIt00
import Derived.Test.YtahkcemdbfjilaaGreatDoorIt20
set_option linter.unusedSimpArgs false
set_option linter.unusedVariables false
set_option maxRecDepth 100000
namespace Go.Proofs.YtahkcemdbfjilaaGreatDoor.Glob
open Go.RowKit
theorem elemL_set (s:By) (h1:pre [42,42] s=false) (h2:(at8 s 0 == 42)=false) (h3:(at8 s 0 == 63)=false) (h4:(at8 s 0 == 91)=true):elemL s=clsL (s.drop 1):=by
 unfold elemL clsL;rw [h1,h2,h3,h4];rfl
theorem elemL_byt (s:By) (h1:pre [42,42] s=false) (h2:(at8 s 0 == 42)=false) (h3:(at8 s 0 == 63)=false) (h4:(at8 s 0 == 91)=false):elemL s=match cbL s with | none=>none | some (c,r)=>some (.byt c,r):=by
 unfold elemL;rw [h1,h2,h3,h4];rfl
theorem elem_fin (w:World) (W:World) (H:Has W w.heap.size 249 #[.nilFunc,.bool false]) (B:Below w.heap.size w W) (f:Value) (h:UInt8→Bool) (hf:IsFn W f h) (m:Bool) :
 Has ((W.setCell ⟨w.heap.size,0,none⟩ f).setCell ⟨w.heap.size,1,none⟩ (.bool m)) w.heap.size 249 #[f,.bool m]∧Below w.heap.size w ((W.setCell ⟨w.heap.size,0,none⟩ f).setCell ⟨w.heap.size,1,none⟩ (.bool m))∧IsFn ((W.setCell ⟨w.heap.size,0,none⟩ f).setCell ⟨w.heap.size,1,none⟩ (.bool m)) f h∧Gx W ((W.setCell ⟨w.heap.size,0,none⟩ f).setCell ⟨w.heap.size,1,none⟩ (.bool m)):=by
 have G:=Gx.put (Gx.put (Gx.refl W) H 0 f) (H.put 0 f) 1 (.bool m);exact ⟨(H.put 0 f).put 1 (.bool m),(B.setCell (Nat.le_refl _) _).setCell (Nat.le_refl _) _,hf.gx G,G⟩
set_option maxHeartbeats 2000000 in
theorem el_all (s:By) (fold:Bool) (w:World) (h0:1≤s.length) (hs:s.length≤128) (h1:pre [42,42] s=true) :
 Calls Tryz.prog 184 #[.string (ba s),.bool fold] w fun e w'=>ElemIs fold (elemL s) e w'∧Below w.heap.size w w':=by
 have HE:Hid (elemL s=some (.all,s.drop 2)):=by
  show _=_;unfold elemL;rw [if_pos h1]
 have hp:∀W,Calls Tryz.prog 75 #[.string (ba s),.string ⟨#[42,42]⟩] W fun e w'=>e=.returned (.bool true)∧W=w':=by
  intro W;have:=pre_any s [42,42] W;rw [h1] at this;exact this
 have i0:=idx0 s h0;have z:=ba_size s;have hpi:(1:Int)≤(s.length:Int):=by omega
 generalize elemL s=goal at HE;obtain ⟨W1,hW1⟩:∃W1,w.alloc (.cells #[.nilFunc,.bool false] 249)=W1:=⟨_,rfl⟩;have H1:Hid (Has W1 w.heap.size 249 #[.nilFunc,.bool false]):=hW1▸Has.fresh _ _ _;have B1:Hid (Below w.heap.size w W1):=hW1▸(Below.refl _ _).alloc (Nat.le_refl _) _;have hl2:(2:Int)≤(s.length:Int):=by have:=pre_len h1;simp at this;omega
 have zd:=ba_drop s 2;generalize s.drop 2=u at zd HE;clear h1 h0;go_enter Tryz.func184,Tryz.ntmps184
 go_wp2_with (go_at_call 75;refine (hp _).mono ?_;rintro e1 w1 ⟨rfl,rfl⟩)
 have z0:Gx W1 W1.drew:=Gx.of_below (Below.refl _ _).drew;have HD:=hid (H1.out.drawn 1);have BD:Hid (Below w.heap.size w W1.drew):=B1.out.drew;refine wp_region_noPanic ?_;refine wp_region_held_drew (S:=Gx W1) (by kernel_rfl) (z0) (fun hS=>?_)
 refine inI 2 ?_
 iterate 2
  refine stI (v:=?_) (by simp only [lkA,lkB,lkC];rfl) (by kernel_rfl) (fun _ _ _ h=>h) (by rfl) (by assumption) ?_ ?_
  rotate_left 1
  · intro w hSw
    go_simp
    with_reducible rfl
  simp only [Act.put,siA,siB,siC,Nat.reduceAdd]
 refine outI ?_;refine wpAnyH_ready (rs:=[0]) (by kernel_rfl) (by simp) ?_
 refine AllReadyH.cons (by simp only [lkA,lkB];rfl) (fun K hK=>?_) (AllReadyH.nil)
 go_simp;refine (anyByte_any _).mono ?_;rintro e2 y2 ⟨⟨f2,rfl,hf2⟩,hy2⟩;obtain rfl:=hy2;have HF:=hid hf2;obtain ⟨k2,lb2,rfl⟩:=hf2.form;clear hf2;have hz1:=z0;refine hK.out _ _ hz1 (fun hS=>?_)
 clear hK K hS;refine tkH 1 (v:=?_) (by simp only [lkA,lkB,lkC];rfl) (by kernel_rfl) (fun _ _ _ h=>h) (by rfl) (by assumption) ?_ ?_
 rotate_left 1
 · intro w hSw
   go_simp
   with_reducible rfl
 simp only [Act.put,siA,siB,siC];refine wpAnyH_ready (rs:=[4]) (by kernel_rfl) (by simp) ?_
 refine AllReadyH.cons (by simp only [lkA,lkB,lkC];rfl) (fun K hK=>?_) (AllReadyH.nil)
 have FN:=hid (elem_fin w W1.drew HD.out BD.out _ _ HF.out true);have k0:=H1.out.at_ 0;have k1:=H1.out.at_ 1;have f0:=H1.out.free 0;have f1:=H1.out.free 1;go_simp;have hz9:=Gx.trans hz1 FN.out.2.2.2;refine hK.out _ _ hz9 (fun hS=>?_)
 clear hK K hS k0 k1 f0 f1;refine inI 5 ?_
 iterate 2
  refine stI (v:=?_) (by simp only [lkA,lkB,lkC];rfl) (by kernel_rfl) (fun _ _ _ h=>h) (by rfl) (by assumption) ?_ ?_
  rotate_left 1
  · intro w hSw
    go_simp
    with_reducible rfl
  simp only [Act.put,siA,siB,siC,Nat.reduceAdd]
 refine outI ?_;refine wpAnyH_done (by kernel_rfl) ?_ _
 refine NoPanic.normal ?_;go_wp2;refine bodyPost_ret (results_ctt rfl _ _ _ w.heap.size _ _ _ (load_elem FN.out.1) rfl rfl rfl) rfl ⟨?_,FN.out.2.1⟩;rw [HE.out];exact ⟨_,rfl,FN.out.2.2.1⟩
set_option maxHeartbeats 2000000 in
theorem el_part (s:By) (fold:Bool) (w:World) (h0:1≤s.length) (hs:s.length≤128) (h1:pre [42,42] s=false) (h2:(at8 s 0 == 42)=true) :
 Calls Tryz.prog 184 #[.string (ba s),.bool fold] w fun e w'=>ElemIs fold (elemL s) e w'∧Below w.heap.size w w':=by
 have HE:Hid (elemL s=some (.part,s.drop 1)):=by
  show _=_;unfold elemL;rw [h1,h2];rfl
 have hp:∀W,Calls Tryz.prog 75 #[.string (ba s),.string ⟨#[42,42]⟩] W fun e w'=>e=.returned (.bool false)∧W=w':=by
  intro W;have:=pre_any s [42,42] W;rw [h1] at this;exact this
 have i0:=idx0 s h0;have z:=ba_size s;have hpi:(1:Int)≤(s.length:Int):=by omega
 generalize elemL s=goal at HE;obtain ⟨W1,hW1⟩:∃W1,w.alloc (.cells #[.nilFunc,.bool false] 249)=W1:=⟨_,rfl⟩;have H1:Hid (Has W1 w.heap.size 249 #[.nilFunc,.bool false]):=hW1▸Has.fresh _ _ _;have B1:Hid (Below w.heap.size w W1):=hW1▸(Below.refl _ _).alloc (Nat.le_refl _) _;have q2:(b8 (at8 s 0) == 42)=true:=(b8_eq (at8 s 0) 42).trans h2;have zd:=ba_drop s 1;generalize s.drop 1=u at zd HE;generalize at8 s 0=x at *;clear h1 h0 h2;go_enter Tryz.func184,Tryz.ntmps184
 go_wp2_with (go_at_call 75;refine (hp _).mono ?_;rintro e1 w1 ⟨rfl,rfl⟩)
 have z0:Gx W1 W1.drew:=Gx.of_below (Below.refl _ _).drew;have HD:=hid (H1.out.drawn 1);have BD:Hid (Below w.heap.size w W1.drew):=B1.out.drew;refine wp_region_noPanic ?_;refine wp_region_held_drew (S:=Gx W1) (by kernel_rfl) (z0) (fun hS=>?_)
 refine inI 3 ?_
 iterate 2
  refine stI (v:=?_) (by simp only [lkA,lkB,lkC];rfl) (by kernel_rfl) (fun _ _ _ h=>h) (by rfl) (by assumption) ?_ ?_
  rotate_left 1
  · intro w hSw
    go_simp
    with_reducible rfl
  simp only [Act.put,siA,siB,siC,Nat.reduceAdd]
 refine outI ?_;refine wpAnyH_ready (rs:=[0]) (by kernel_rfl) (by simp) ?_
 refine AllReadyH.cons (by simp only [lkA,lkB];rfl) (fun K hK=>?_) (AllReadyH.nil)
 go_simp;refine (anyByte_any _).mono ?_;rintro e2 y2 ⟨⟨f2,rfl,hf2⟩,hy2⟩;obtain rfl:=hy2;have HF:=hid hf2;obtain ⟨k2,lb2,rfl⟩:=hf2.form;clear hf2;have hz1:=z0;refine hK.out _ _ hz1 (fun hS=>?_)
 clear hK K hS;refine wpAnyH_ready (rs:=[1]) (by kernel_rfl) (by simp) ?_
 refine AllReadyH.cons (by simp only [lkA,lkB,lkC];rfl) (fun K hK=>?_) (AllReadyH.nil)
 go_simp;refine (inPart_any _ _ _ HF.out).mono ?_;rintro e4 y4 ⟨⟨f4,rfl,hf4⟩,hb4⟩;have HF4:=hid hf4;obtain ⟨k4,lb4,rfl⟩:=hf4.form;have H4:=hid (Has.stays (w:=W1.drew) HD.out hb4);have B4:Hid (Below w.heap.size w y4):=BD.out.thenG hb4;have hz2:=Gx.then_below z0 hb4;refine hK.out _ _ hz2 (fun hS=>?_)
 clear hK K hS;refine tkH 2 (v:=?_) (by simp only [lkA,lkB,lkC];rfl) (by kernel_rfl) (fun _ _ _ h=>h) (by rfl) (by assumption) ?_ ?_
 rotate_left 1
 · intro w hSw
   go_simp
   with_reducible rfl
 simp only [Act.put,siA,siB,siC];refine wpAnyH_ready (rs:=[5]) (by kernel_rfl) (by simp) ?_
 refine AllReadyH.cons (by simp only [lkA,lkB,lkC];rfl) (fun K hK=>?_) (AllReadyH.nil)
 have FN:=hid (elem_fin w y4 H4.out B4.out _ _ HF4.out true);have k0:=H4.out.at_ 0;have k1:=H4.out.at_ 1;have f0:=H4.out.free 0;have f1:=H4.out.free 1;go_simp;have hz9:=Gx.trans hz2 FN.out.2.2.2;refine hK.out _ _ hz9 (fun hS=>?_)
 clear hK K hS k0 k1 f0 f1;refine inI 6 ?_
 iterate 2
  refine stI (v:=?_) (by simp only [lkA,lkB,lkC];rfl) (by kernel_rfl) (fun _ _ _ h=>h) (by rfl) (by assumption) ?_ ?_
  rotate_left 1
  · intro w hSw
    go_simp
    with_reducible rfl
  simp only [Act.put,siA,siB,siC,Nat.reduceAdd]
 refine outI ?_;refine wpAnyH_done (by kernel_rfl) ?_ _
 refine NoPanic.normal ?_;go_wp2;refine bodyPost_ret (results_ctt rfl _ _ _ w.heap.size _ _ _ (load_elem FN.out.1) rfl rfl rfl) rfl ⟨?_,FN.out.2.1⟩;rw [HE.out];exact ⟨_,rfl,(show (fun c:UInt8=>!(c == 47)&&true)=holdsE fold .part from funext fun c=>Bool.and_true _)▸FN.out.2.2.1⟩
set_option maxHeartbeats 2000000 in
theorem el_one (s:By) (fold:Bool) (w:World) (h0:1≤s.length) (hs:s.length≤128) (h1:pre [42,42] s=false) (h2:(at8 s 0 == 42)=false) (h3:(at8 s 0 == 63)=true) :
 Calls Tryz.prog 184 #[.string (ba s),.bool fold] w fun e w'=>ElemIs fold (elemL s) e w'∧Below w.heap.size w w':=by
 have HE:Hid (elemL s=some (.one,s.drop 1)):=by
  show _=_;unfold elemL;rw [h1,h2,h3];rfl
 have hp:∀W,Calls Tryz.prog 75 #[.string (ba s),.string ⟨#[42,42]⟩] W fun e w'=>e=.returned (.bool false)∧W=w':=by
  intro W;have:=pre_any s [42,42] W;rw [h1] at this;exact this
 have i0:=idx0 s h0;have z:=ba_size s;have hpi:(1:Int)≤(s.length:Int):=by omega
 generalize elemL s=goal at HE;obtain ⟨W1,hW1⟩:∃W1,w.alloc (.cells #[.nilFunc,.bool false] 249)=W1:=⟨_,rfl⟩;have H1:Hid (Has W1 w.heap.size 249 #[.nilFunc,.bool false]):=hW1▸Has.fresh _ _ _;have B1:Hid (Below w.heap.size w W1):=hW1▸(Below.refl _ _).alloc (Nat.le_refl _) _;have q2:(b8 (at8 s 0) == 42)=false:=(b8_eq (at8 s 0) 42).trans h2;have q3:(b8 (at8 s 0) == 63)=true:=(b8_eq (at8 s 0) 63).trans h3;have zd:=ba_drop s 1;generalize s.drop 1=u at zd HE;generalize at8 s 0=x at *;clear h1 h0 h2 h3;go_enter Tryz.func184,Tryz.ntmps184
 go_wp2_with (go_at_call 75;refine (hp _).mono ?_;rintro e1 w1 ⟨rfl,rfl⟩)
 have z0:Gx W1 W1.drew:=Gx.of_below (Below.refl _ _).drew;have HD:=hid (H1.out.drawn 1);have BD:Hid (Below w.heap.size w W1.drew):=B1.out.drew;refine wp_region_noPanic ?_;refine wp_region_held_drew (S:=Gx W1) (by kernel_rfl) (z0) (fun hS=>?_)
 refine inI 3 ?_
 iterate 2
  refine stI (v:=?_) (by simp only [lkA,lkB,lkC];rfl) (by kernel_rfl) (fun _ _ _ h=>h) (by rfl) (by assumption) ?_ ?_
  rotate_left 1
  · intro w hSw
    go_simp
    with_reducible rfl
  simp only [Act.put,siA,siB,siC,Nat.reduceAdd]
 refine outI ?_;refine wpAnyH_ready (rs:=[0]) (by kernel_rfl) (by simp) ?_
 refine AllReadyH.cons (by simp only [lkA,lkB];rfl) (fun K hK=>?_) (AllReadyH.nil)
 go_simp;refine (anyByte_any _).mono ?_;rintro e2 y2 ⟨⟨f2,rfl,hf2⟩,hy2⟩;obtain rfl:=hy2;have HF:=hid hf2;obtain ⟨k2,lb2,rfl⟩:=hf2.form;clear hf2;have hz1:=z0;refine hK.out _ _ hz1 (fun hS=>?_)
 clear hK K hS;refine wpAnyH_ready (rs:=[1]) (by kernel_rfl) (by simp) ?_
 refine AllReadyH.cons (by simp only [lkA,lkB,lkC];rfl) (fun K hK=>?_) (AllReadyH.nil)
 go_simp;refine (inPart_any _ _ _ HF.out).mono ?_;rintro e4 y4 ⟨⟨f4,rfl,hf4⟩,hb4⟩;have HF4:=hid hf4;obtain ⟨k4,lb4,rfl⟩:=hf4.form;have H4:=hid (Has.stays (w:=W1.drew) HD.out hb4);have B4:Hid (Below w.heap.size w y4):=BD.out.thenG hb4;have hz2:=Gx.then_below z0 hb4;refine hK.out _ _ hz2 (fun hS=>?_)
 clear hK K hS;refine tkH 2 (v:=?_) (by simp only [lkA,lkB,lkC];rfl) (by kernel_rfl) (fun _ _ _ h=>h) (by rfl) (by assumption) ?_ ?_
 rotate_left 1
 · intro w hSw
   go_simp
   with_reducible rfl
 simp only [Act.put,siA,siB,siC];refine wpAnyH_ready (rs:=[5]) (by kernel_rfl) (by simp) ?_
 refine AllReadyH.cons (by simp only [lkA,lkB,lkC];rfl) (fun K hK=>?_) (AllReadyH.nil)
 have FN:=hid (elem_fin w y4 H4.out B4.out _ _ HF4.out false);have k0:=H4.out.at_ 0;have k1:=H4.out.at_ 1;have f0:=H4.out.free 0;have f1:=H4.out.free 1;go_simp;have hz9:=Gx.trans hz2 FN.out.2.2.2;refine hK.out _ _ hz9 (fun hS=>?_)
 clear hK K hS k0 k1 f0 f1;refine inI 6 ?_
 iterate 2
  refine stI (v:=?_) (by simp only [lkA,lkB,lkC];rfl) (by kernel_rfl) (fun _ _ _ h=>h) (by rfl) (by assumption) ?_ ?_
  rotate_left 1
  · intro w hSw
    go_simp
    with_reducible rfl
  simp only [Act.put,siA,siB,siC,Nat.reduceAdd]
 refine outI ?_;refine wpAnyH_done (by kernel_rfl) ?_ _
 refine NoPanic.normal ?_;go_wp2;refine bodyPost_ret (results_ctt rfl _ _ _ w.heap.size _ _ _ (load_elem FN.out.1) rfl rfl rfl) rfl ⟨?_,FN.out.2.1⟩;rw [HE.out];exact ⟨_,rfl,(show (fun c:UInt8=>!(c == 47)&&true)=holdsE fold .one from funext fun c=>Bool.and_true _)▸FN.out.2.2.1⟩
set_option maxHeartbeats 2000000 in
theorem el_set (s:By) (fold:Bool) (w:World) (h0:1≤s.length) (hs:s.length≤128) (h1:pre [42,42] s=false) (h2:(at8 s 0 == 42)=false) (h3:(at8 s 0 == 63)=false) (h4:(at8 s 0 == 91)=true) :
 Calls Tryz.prog 184 #[.string (ba s),.bool fold] w fun e w'=>ElemIs fold (elemL s) e w'∧Below w.heap.size w w':=by
 have HE:Hid (elemL s=clsL (s.drop 1)):=by
  show _=_;exact elemL_set s h1 h2 h3 h4
 have hp:∀W,Calls Tryz.prog 75 #[.string (ba s),.string ⟨#[42,42]⟩] W fun e w'=>e=.returned (.bool false)∧W=w':=by
  intro W;have:=pre_any s [42,42] W;rw [h1] at this;exact this
 have i0:=idx0 s h0;have z:=ba_size s;have hpi:(1:Int)≤(s.length:Int):=by omega
 generalize elemL s=goal at HE;obtain ⟨W1,hW1⟩:∃W1,w.alloc (.cells #[.nilFunc,.bool false] 249)=W1:=⟨_,rfl⟩;have H1:Hid (Has W1 w.heap.size 249 #[.nilFunc,.bool false]):=hW1▸Has.fresh _ _ _;have B1:Hid (Below w.heap.size w W1):=hW1▸(Below.refl _ _).alloc (Nat.le_refl _) _;have q2:(b8 (at8 s 0) == 42)=false:=(b8_eq (at8 s 0) 42).trans h2;have q3:(b8 (at8 s 0) == 63)=false:=(b8_eq (at8 s 0) 63).trans h3;have q4:(b8 (at8 s 0) == 91)=true:=(b8_eq (at8 s 0) 91).trans h4;have zd:=ba_drop s 1;have hl1:(s.drop 1).length≤128:=by simp;omega
 generalize s.drop 1=u at zd HE hl1;generalize at8 s 0=x at *;have CC:=hid (class_any u fold W1 hl1);rw [←HE.out] at CC;clear h1 h0 h2 h3 h4 hl1;go_enter Tryz.func184,Tryz.ntmps184
 go_wp2_with (go_at_call 75;refine (hp _).mono ?_;rintro e1 w1 ⟨rfl,rfl⟩)
 refine CC.out.mono ?_;rintro e2 w2 ⟨he,hb2⟩;have H2:=hid (H1.out.stays hb2);have B2:=hid (B1.out.thenG hb2);have k0:=H2.out.at_ 0;have k1:=H2.out.at_ 1;have f0:=H2.out.free 0;have f1:=H2.out.free 1
 cases goal with
 | none =>
  obtain ⟨f,m,r,rfl,hf⟩:=he;rcases hf with rfl | ⟨h,hf⟩
  · go_wp2
    refine bodyPost_ret (results_ctt rfl _ _ _ w.heap.size _ _ _ (load_elem ((H2.out.put 0 _).put 1 _)) rfl rfl rfl) rfl ⟨?_,(B2.out.setCell (Nat.le_refl _) _).setCell (Nat.le_refl _) _⟩;exact ⟨_,_,r,rfl,.inl rfl⟩
  · have HF:=hid hf
    obtain ⟨k2,lb2,rfl⟩:=hf.form;clear hf;have FN:=hid (elem_fin w w2 H2.out B2.out _ _ HF.out m);go_wp2;refine bodyPost_ret (results_ctt rfl _ _ _ w.heap.size _ _ _ (load_elem FN.out.1) rfl rfl rfl) rfl ⟨?_,FN.out.2.1⟩;exact ⟨_,_,r,rfl,.inr ⟨_,FN.out.2.2.1⟩⟩
 | some y =>
  obtain ⟨el,r⟩:=y;obtain ⟨f,rfl,hf⟩:=he;have HF:=hid hf;obtain ⟨k2,lb2,rfl⟩:=hf.form;clear hf;have FN:=hid (elem_fin w w2 H2.out B2.out _ _ HF.out el.many);go_wp2;refine bodyPost_ret (results_ctt rfl _ _ _ w.heap.size _ _ _ (load_elem FN.out.1) rfl rfl rfl) rfl ⟨?_,FN.out.2.1⟩;exact ⟨_,rfl,FN.out.2.2.1⟩
set_option maxHeartbeats 2000000 in
theorem el_byt (s:By) (fold:Bool) (w:World) (h0:1≤s.length) (hs:s.length≤128) (h1:pre [42,42] s=false) (h2:(at8 s 0 == 42)=false) (h3:(at8 s 0 == 63)=false) (h4:(at8 s 0 == 91)=false) :
 Calls Tryz.prog 184 #[.string (ba s),.bool fold] w fun e w'=>ElemIs fold (elemL s) e w'∧Below w.heap.size w w':=by
 have HE:Hid (elemL s=match cbL s with | none=>none | some (c,r)=>some (.byt c,r)):=by
  show _=_;exact elemL_byt s h1 h2 h3 h4
 have hp:∀W,Calls Tryz.prog 75 #[.string (ba s),.string ⟨#[42,42]⟩] W fun e w'=>e=.returned (.bool false)∧W=w':=by
  intro W;have:=pre_any s [42,42] W;rw [h1] at this;exact this
 have i0:=idx0 s h0;have z:=ba_size s;have hpi:(1:Int)≤(s.length:Int):=by omega
 generalize elemL s=goal at HE;obtain ⟨W1,hW1⟩:∃W1,w.alloc (.cells #[.nilFunc,.bool false] 249)=W1:=⟨_,rfl⟩;have H1:Hid (Has W1 w.heap.size 249 #[.nilFunc,.bool false]):=hW1▸Has.fresh _ _ _;have B1:Hid (Below w.heap.size w W1):=hW1▸(Below.refl _ _).alloc (Nat.le_refl _) _;have q2:(b8 (at8 s 0) == 42)=false:=(b8_eq (at8 s 0) 42).trans h2;have q3:(b8 (at8 s 0) == 63)=false:=(b8_eq (at8 s 0) 63).trans h3;have q4:(b8 (at8 s 0) == 91)=false:=(b8_eq (at8 s 0) 91).trans h4;generalize at8 s 0=x at *;have hc:=cb_any s;generalize cbL s=cb at hc HE;obtain ⟨c,r,ok,hv⟩:∃(c:UInt8) (r:By) (ok:Bool),cbV cb=.tuple #[.int .u8 (b8 c),.string (ba r),.bool ok]∧goal=if ok then some (.byt c,r) else none:=by
  cases cb with
  | none=>exact ⟨0,[],false,rfl,HE.out⟩
  | some y=>exact ⟨y.1,y.2,true,rfl,HE.out⟩
 rw [hv.1] at hc;have HE2:=hid hv.2;clear h1 h0 h2 h3 h4 HE hv;obtain ⟨W2,hW2⟩:∃W2:Nat→World,∀n,(W1.drewN n).alloc (.cells #[.int .u8 (b8 c),.int .u8 (b8 c)] 281)=W2 n:=⟨_,fun _=>rfl⟩
 have HW:Hid (∀n,Below W1.heap.size W1 (W2 n)):=fun n=>hW2 n▸((Below.refl _ _).drewG n).alloc (Nat.le_refl _) _
 have hn1:∀n,(W1.drewN n).heap.size=W1.heap.size:=fun _=>rfl
 have CW:Hid (∀n,Calls Tryz.prog 221 #[.slice (some ⟨W1.heap.size,0,none⟩) 1 1,.bool fold] (W2 n) fun e w'=>(∃f,e=.returned f∧IsFn w' f (inF fold [(c,c)]))∧Below (W2 n).heap.size (W2 n) w'):=fun n =>
  within_any 0 _ [(c,c)] fold (W2 n) ⟨rfl,.inr ⟨W1.heap.size,1,#[.int .u8 (b8 c),.int .u8 (b8 c)],rfl,Nat.zero_le _,hW2 n▸Has.fresh (W1.drewN n) _ _,Nat.le_refl _,by unfold maxLen;omega,rfl,rfl⟩⟩ (by simp)
 go_enter Tryz.func184,Tryz.ntmps184
 go_wp2_with (first
  | (go_at_call 75;refine (hp _).mono ?_;rintro e1 w1 ⟨rfl,rfl⟩)
  | (go_at_call 220;refine (hc _).mono ?_;rintro e1 w1 ⟨rfl,n1,rfl⟩))
 refine (CW.out n1).mono ?_;rintro e2 w2 ⟨⟨f,rfl,hf⟩,hb2⟩;have HF:=hid hf;obtain ⟨k2,lb2,rfl⟩:=hf.form;have H2:=hid ((H1.out.stays (HW.out n1)).stays hb2);have B2:Hid (Below w.heap.size w w2):=(B1.out.thenG (HW.out n1)).thenG hb2;have k0:=H2.out.at_ 0;have k1:=H2.out.at_ 1;have f0:=H2.out.free 0;have f1:=H2.out.free 1;have FN:=hid (elem_fin w w2 H2.out B2.out _ _ HF.out false);clear hf hb2 CW HW hW2;go_wp2;refine bodyPost_ret (results_ctt rfl _ _ _ w.heap.size _ _ _ (load_elem FN.out.1) rfl rfl rfl) rfl ⟨?_,FN.out.2.1⟩;rw [HE2.out]
 cases ok with
 | false=>exact ⟨_,_,r,rfl,.inr ⟨_,FN.out.2.2.1⟩⟩
 | true=>exact ⟨_,rfl,FN.out.2.2.1⟩
theorem elem_any (s:By) (fold:Bool) (w:World) (h0:1≤s.length) (hs:s.length≤128) :
 Calls Tryz.prog 184 #[.string (ba s),.bool fold] w fun e w'=>ElemIs fold (elemL s) e w'∧Below w.heap.size w w':=by
 cases h1:pre [42,42] s with
 | true=>exact el_all s fold w h0 hs h1
 | false=>cases h2:at8 s 0 == 42 with
  | true=>exact el_part s fold w h0 hs h1 h2
  | false=>cases h3:at8 s 0 == 63 with
   | true=>exact el_one s fold w h0 hs h1 h2 h3
   | false=>cases h4:at8 s 0 == 91 with
    | true=>exact el_set s fold w h0 hs h1 h2 h3 h4
    | false=>exact el_byt s fold w h0 hs h1 h2 h3 h4
end Go.Proofs.YtahkcemdbfjilaaGreatDoor.Glob
namespace Go.Proofs.YtahkcemdbfjilaaGreatDoor.Glob
open Go.RowKit
def ecells (ps:List (Value × Bool)):List Value:=ps.flatMap fun p=>[p.1,.bool p.2]
theorem ecells_at (ps:List (Value × Bool)) (k:Nat) (p:Value × Bool) (h:ps[k]? = some p):(ecells ps)[k*2]? = some p.1∧(ecells ps)[k*2+1]? = some (.bool p.2):=by
 induction ps generalizing k with
 | nil=>simp at h
 | cons r rs ih =>
  have e:ecells (r :: rs)=[r.1,.bool r.2]++ecells rs:=by simp [ecells]
  rw [e]
  cases k with
  | zero=>simp at h;subst h;simp
  | succ k =>
   have:=ih k (by simpa using h)
   rw [show (k+1)*2=k*2+2 by omega,show k*2+2+1=(k*2+1)+2 by omega]
   simpa using this
def Els (B:Nat) (w:World) (v:Value) (hs:H):Prop :=
 ∃ps:List (Value × Bool),w.ownsRow B 249 2 v hs.length (ecells ps)∧ps.length=hs.length∧∀(k:Nat) p h,ps[k]? = some p→hs[k]? = some h→p.2=h.2∧IsFn w p.1 h.1
theorem Els.nil (B:Nat) (w:World):Els B w (.slice none 0 0) []:=⟨[],World.ownsRow_nil _ _ _ _,rfl,fun k p h hp=>by simp at hp⟩
theorem Els.mono {B B':Nat} {w:World} {v:Value} {hs:H} (h:Els B w v hs) (hb:B'≤B):Els B' w v hs:=by
 obtain ⟨ps,ho,h2⟩:=h;refine ⟨ps,⟨ho.1,?_⟩,h2⟩;rcases ho.2 with h1 | ⟨g,c,cur,h1,h2,h3⟩
 · exact .inl h1
 · exact .inr ⟨g,c,cur,h1,by omega,h3⟩
theorem Els.stays {B:Nat} {w w':World} {v:Value} {hs:H} (h:Els B w v hs) (hb:Below w.heap.size w w'):Els B w' v hs:=by
 obtain ⟨ps,ho,hl,hf⟩:=h;refine ⟨ps,⟨ho.1,?_⟩,hl,fun k p x hp hx=>⟨(hf k p x hp hx).1,(hf k p x hp hx).2.stays hb⟩⟩
 rcases ho.2 with h1 | ⟨g,c,cur,h1,hB,h3,h4⟩
 · exact .inl h1
 · exact .inr ⟨g,c,cur,h1,hB,(hb.block g (Array.getElem?_eq_some_iff.1 h3).1).trans h3,h4⟩
theorem Els.form {B:Nat} {w:World} {v:Value} {hs:H} (h:Els B w v hs):∃A c,v=.slice A hs.length c:=by
 obtain ⟨ps,ho,_⟩:=h;rcases ho.2 with ⟨h1,h2⟩ | ⟨g,c,cur,h1,_⟩
 · exact ⟨none,0,by rw [h1,h2]⟩
 · exact ⟨some ⟨g,0,none⟩,c,h1⟩
theorem Els.at_ {B:Nat} {w:World} {v:Value} {hs:H} (h:Els B w v hs) (h0:0 < hs.length) :
 ∃g c,v=.slice (some ⟨g,0,none⟩) hs.length c∧B≤g∧g < w.heap.size∧∀(k:Nat) x,hs[k]? = some x→∃f,w.cell? ⟨g,k*2,none⟩=some f∧w.cell? ⟨g,k*2+1,none⟩=some (.bool x.2)∧IsFn w f x.1:=by
 obtain ⟨ps,ho,hl,hf⟩:=h;rcases ho.2 with ⟨_,h2⟩ | ⟨g,c,cur,h1,hB,h3,h4,h5,h6,h7⟩
 · omega
 · refine ⟨g,c,h1,hB,(Array.getElem?_eq_some_iff.1 h3).1,fun k x hx=>?_⟩
   have hk:k < hs.length:=(List.getElem?_eq_some_iff.1 hx).1;obtain ⟨p,hp⟩:∃p,ps[k]? = some p:=⟨ps[k]'(by omega),List.getElem?_eq_getElem (by omega)⟩
   have hh:Has w g 249 cur:=h3;have e:=ecells_at ps k p hp;rw [←h7,List.getElem?_take_of_lt (by omega),List.getElem?_take_of_lt (by omega)] at e
   refine ⟨p.1,?_,?_,(hf k p x hp hx).2⟩
   · rw [hh.at_];simpa using e.1
   · rw [hh.at_,←(hf k p x hp hx).1];simpa using e.2
theorem infoElem:(Tryz.prog.info? 249).map (fun i=>(i.zero,i.size,i.bytes))=some (some (.agg #[.nilFunc,.bool false]),2,16):=by kernel_rfl
theorem own_typed {B:Nat} {w:World} {e:TypeId} {s n:Nat} {v:Value} {xs:List Value} (h:w.ownsRow B e s v n xs):∀k,v.ownBlock=some k→∃cs q,w.heap[k]? = some (Obj.cells cs e q):=by
 intro k hk;rcases h.2 with ⟨rfl,_⟩ | ⟨g,c,cur,rfl,hB,h3,_⟩
 · cases hk
 · obtain rfl:=Option.some.inj hk;exact ⟨_,_,h3⟩
theorem append_el (w:World) (B:Nat) (v:Value) (hs:H) (h:Els B w v hs) (f:Value) (x:UInt8→Bool) (m:Bool) (hx:IsFn w f x) (a:Addr) (h0:w.cell? (a.add 0)=some f) (h1:w.cell? (a.add 1)=some (.bool m)) (hn:hs.length≤1000) (hB:B≤w.heap.size) (ty:TypeId) :
 ∃v' w',(Builtin.append_ #[211,211] ty #[v,.slice (some a) 1 1]).run Tryz.prog w=.ok v' w'∧Els B w' v' (hs++[(x,m)])∧w.grownBy w' v.ownBlock∧(∀k,v.ownBlock=some k→B≤k):=by
 obtain ⟨ps,ho,hl,hf⟩:=h;obtain ⟨i0,hi,hz0,hz1,hz2⟩:=info_parts infoElem;obtain ⟨v',w',hr,ho',hg,_,_⟩:=run_append_own_at (P:=Tryz.prog) w B 211 ty 249 i0 (.agg #[.nilFunc,.bool false]) 2 16 Tryz.underlying211 hi hz0 hz1 hz2 rfl (by omega) v hs.length (ecells ps) ho a 1 1 [f,.bool m] rfl (fun j u' hj=>by
  match j,hj with
  | 0,hj=>obtain rfl:=Option.some.inj hj;exact h0
  | 1,hj=>obtain rfl:=Option.some.inj hj;exact h1
  | j+2,hj=>simp at hj) (fun y hy=>by
   simp only [List.mem_cons,List.not_mem_nil,or_false] at hy;rcases hy with rfl | rfl
   · exact hx.one
   · rfl) (by unfold maxLen;omega) (by omega) hB
 have G:Gx w w':=Gx.of_grown hg (own_typed ho);refine ⟨v',w',hr,⟨ps++[(f,m)],?_,by simp [hl],fun k p y hp hy=>?_⟩,hg,own_base ho⟩
 · have:ecells (ps++[(f,m)])=ecells ps++[f,.bool m]:=by simp [ecells]
   rw [this,List.length_append];exact ho'
 · by_cases hk:k < ps.length
   · rw [List.getElem?_append_left hk] at hp
     rw [List.getElem?_append_left (by omega)] at hy
     exact ⟨(hf k p y hp hy).1,(hf k p y hp hy).2.gx G⟩
   · have hk2:k=ps.length:=by have:=(List.getElem?_eq_some_iff.1 hp).1;simp at this;omega
     subst hk2;simp at hp;rw [hl] at hy;simp at hy;subst hp;subst hy;exact ⟨rfl,hx.gx G⟩
set_option maxHeartbeats 2000000 in
theorem elems_any (s:By) (fold:Bool) (w:World) (hs:s.length≤128) :
 Calls Tryz.prog 147 #[.string (ba s),.bool fold] w fun e w'=>(match elems s [] with
  | none=>∃v,e=.returned (.tuple #[v,.bool false])
  | some l=>∃v,e=.returned (.tuple #[v,.bool true])∧Els w.heap.size w' v (hsOf fold l))∧Below w.heap.size w w':=by
 obtain ⟨goal,HC⟩:∃g,Hid (elems s []=g):=⟨_,rfl⟩;rw [HC.out];go_enter Tryz.func147,Tryz.ntmps147
 go_wp2;go_loopw [0,4] (fun s0 l wr=>∃(t:By) (es:List El) (A:Option Addr) (cap:Nat),s0=.string (ba t)∧l=.slice A es.length cap∧t.length≤128∧es.length+t.length≤128∧Hid (elems s []=elems t es)∧Hid (Els w.heap.size wr (.slice A es.length cap) (hsOf fold es))∧Hid (Below w.heap.size w wr))
  (fun s0 _ _=>match s0 with | .string x=>x.size | _=>0)
 case atStart=>exact ⟨s,[],none,0,rfl,rfl,hs,by simp;exact hs,rfl,Els.nil _ _,Below.refl _ _⟩
 case round =>
  obtain ⟨t,es,A,cap,rfl,rfl,hl,hrl,HT,HS,HB⟩:=hrel;have HE:Hid (goal=if t.length=0 then (if es.length=0 then none else some es) else match elemL t with | none=>none | some (e,u)=>elems u (es++[e])):=by
   show _=_;rw [←HC.out,HT.out,elems_eq];rfl
  have HW:=hid HB.out.size;have zt:=toList_ba t;clear HT;by_cases h0:t.length=0
  · obtain rfl:=List.length_eq_zero_iff.1 h0
    have HE2:goal=if es.length=0 then none else some es:=HE.out
    clear h0 HE HC;by_cases h1:es.length=0
    · rw [if_pos h1] at HE2
      subst HE2;go_wp2;go_ret2;exact ⟨⟨.slice A es.length cap,by simp [h1]⟩,HB.out⟩
    · rw [if_neg h1] at HE2
      subst HE2;go_wp2;go_ret2;exact ⟨⟨_,by simp [Nat.pos_of_ne_zero h1],HS.out⟩,HB.out⟩
  · have CE:=hid (elem_any t fold wr (by omega) hl)
    have e0:(t == [])=false:=by cases t with | nil=>exact absurd rfl h0 | cons _ _=>rfl
    obtain ⟨x,HU⟩:∃x,Hid (elemL t=x):=⟨_,rfl⟩;rw [HU.out] at CE HE;have H0:=hid h0;clear h0
    cases x with
    | none =>
     have HE2:goal=none:=HE.out.trans (if_neg H0.out);subst HE2;go_wp2_with (fail)
     refine CE.out.mono ?_;rintro e2 w2 ⟨⟨f,m,r,rfl,hf⟩,hb2⟩;have H2:=hid hb2;clear hb2 HE HC;rcases hf with rfl | ⟨x,hf⟩
     · go_wp2
       go_ret2;exact ⟨⟨_,rfl⟩,(HB.out.thenG H2.out).alloc (by have:=HB.out.size;have:=H2.out.size;omega) _⟩
     · obtain ⟨k2,lb2,rfl⟩:=hf.form
       clear hf;go_wp2;go_ret2;exact ⟨⟨_,rfl⟩,(HB.out.thenG H2.out).alloc (by have:=HB.out.size;have:=H2.out.size;omega) _⟩
    | some y =>
     obtain ⟨el,u⟩:=y;have HE2:Hid (elems s []=elems u (es++[el])):=HC.out.trans <| HE.out.trans (if_neg H0.out)
     clear HE;go_wp2_with (fail)
     refine CE.out.mono ?_;rintro e2 w2 ⟨⟨f,rfl,hf⟩,hb2⟩;have hul:u.length < t.length:=elemL_len (fun e=>H0.out (by rw [e];rfl)) HU.out
     have HF:=hid hf;obtain ⟨k2,lb2,rfl⟩:=hf.form;obtain ⟨W3,hW3⟩:∃W3,w2.alloc (.cells #[.func (.func k2) #[] lb2,.bool el.many] 249)=W3:=⟨_,rfl⟩;obtain ⟨W4,hW4⟩:∃W4,W3.alloc (.cells #[.func (.func k2) #[] lb2,.bool el.many] 249)=W4:=⟨_,rfl⟩;have B3:Below w2.heap.size w2 W3:=hW3▸(Below.refl _ _).alloc (Nat.le_refl _) _;have B4:Below W3.heap.size W3 W4:=hW4▸(Below.refl _ _).alloc (Nat.le_refl _) _;have B24:=(hb2.thenG B3).thenG B4;have hf4:Has W4 W3.heap.size 249 #[.func (.func k2) #[] lb2,.bool el.many]:=hW4▸Has.fresh _ _ _;have hs3:W3.heap.size=w2.heap.size+1:=by rw [←hW3];simp
     obtain ⟨v',w',har,hsp',hgr,hob⟩:=append_el W4 w.heap.size _ (hsOf fold es) (HS.out.stays B24) _ (holdsE fold el) el.many ((HF.out.stays B3).stays B4) ⟨W3.heap.size,0,none⟩ (hf4.at_ 0) (hf4.at_ 1) (by rw [hsOf_len];omega) (Nat.le_trans HW.out B24.size) 211
     rw [hs3] at har;have HAR:=hid har;have hsp2:Els w.heap.size w' v' (hsOf fold (es++[el])):=by simpa [hsOf] using hsp'
     have HSP:=hid hsp2;have HBL:Hid (Below w.heap.size w w'):=Below.grown (HB.out.trans (B24.mono HW.out)) hgr (Nat.le_trans HW.out B24.size) hob;have hf3:Has W3 w2.heap.size 249 #[.func (.func k2) #[] lb2,.bool el.many]:=hW3▸Has.fresh _ _ _;have k0:=hf3.at_ 0;have k1:=hf3.at_ 1;clear har hsp' hsp2 hgr hf4 B3 B4 B24 hb2 hf3 hf hob HC;go_wp2_with (at_builtin;refine wpList_append_run rfl (.tmp 20) (.tmp 22) 211 211 rfl ⟨v',w',HAR.out,?_⟩)
     obtain ⟨A',c',hv'⟩:=HSP.out.form;rw [hsOf_len] at hv';subst hv';refine ⟨⟨u,es++[el],A',c',rfl,rfl,by omega,by simp;omega,HE2.out,HSP.out,HBL.out⟩,?_⟩
     simp [ba_size];omega
end Go.Proofs.YtahkcemdbfjilaaGreatDoor.Glob
namespace Go.Proofs.YtahkcemdbfjilaaGreatDoor.Glob
open Go.RowKit
def cmV (x:Nat × By):Value:=.tuple #[.int .i64 (x.1:Int),.string (ba x.2)]
theorem cutMark_any (s:By) (w:World):Calls Tryz.prog 183 #[.string (ba s)] w fun e w'=>e=.returned (cmV (cutM s))∧∃n,w'=w.drewN n:=by
 have c1:∀W,Calls Tryz.prog 75 #[.string (ba s),.string ⟨#[33]⟩] W fun e w'=>e=.returned (.bool (pre [33] s))∧W=w':=fun W=>pre_any s [33] W
 have c2:∀W,Calls Tryz.prog 75 #[.string (ba s),.string ⟨#[40,63,105,41]⟩] W fun e w'=>e=.returned (.bool (pre [40,63,105,41] s))∧W=w':=fun W=>pre_any s [40,63,105,41] W
 have c3:∀W,Calls Tryz.prog 75 #[.string (ba s),.string ⟨#[40,63,100,41]⟩] W fun e w'=>e=.returned (.bool (pre [40,63,100,41] s))∧W=w':=fun W=>pre_any s [40,63,100,41] W
 have z:=ba_size s;have zd:=ba_drop s 1;have zd4:=ba_drop s 4;have HC:Hid (cutM s=if pre [33] s then (1,s.drop 1) else if pre [40,63,105,41] s then (2,s.drop 4) else if pre [40,63,100,41] s then (4,s.drop 4) else (0,s)):=rfl
 have l1:=pre_len (p:=[33]) (s:=s);have l2:=pre_len (p:=[40,63,105,41]) (s:=s);have l3:=pre_len (p:=[40,63,100,41]) (s:=s);generalize s.drop 1=u at zd HC;generalize s.drop 4=u4 at zd4 HC;generalize cutM s=goal at HC;generalize pre [33] s=b1 at c1 HC l1;generalize pre [40,63,105,41] s=b2 at c2 HC l2;generalize pre [40,63,100,41] s=b3 at c3 HC l3
 cases b1 with
 | true =>
  have hl:(1:Int)≤(s.length:Int):=by have:=l1 rfl;simp at this;omega
  clear l1 l2 l3;go_enter Tryz.func183,Tryz.ntmps183
  go_wp2_with (fail)
  refine (c1 _).mono ?_;rintro e1 w1 ⟨rfl,rfl⟩;go_wp2;go_quiet (fail)
  go_wp2;go_ret2;exact ⟨by rw [HC.out];rfl,_,rfl⟩
 | false =>
  cases b2 with
  | true =>
   have hl:(4:Int)≤(s.length:Int):=by have:=l2 rfl;simp at this;omega
   clear l1 l2 l3;go_enter Tryz.func183,Tryz.ntmps183
   go_wp2_with (fail)
   refine (c1 _).mono ?_;rintro e1 w1 ⟨rfl,rfl⟩;go_wp2_with (fail)
   refine (c2 _).mono ?_;rintro e1 w1 ⟨rfl,rfl⟩;go_wp2;go_quiet (fail)
   go_wp2;go_ret2;exact ⟨by rw [HC.out];rfl,_,rfl⟩
  | false =>
   cases b3 with
   | true =>
    have hl:(4:Int)≤(s.length:Int):=by have:=l3 rfl;simp at this;omega
    clear l1 l2 l3;go_enter Tryz.func183,Tryz.ntmps183
    go_wp2_with (fail)
    refine (c1 _).mono ?_;rintro e1 w1 ⟨rfl,rfl⟩;go_wp2_with (fail)
    refine (c2 _).mono ?_;rintro e1 w1 ⟨rfl,rfl⟩;go_wp2_with (fail)
    refine (c3 _).mono ?_;rintro e1 w1 ⟨rfl,rfl⟩;go_wp2;go_quiet (fail)
    go_wp2;go_ret2;exact ⟨by rw [HC.out];rfl,_,rfl⟩
   | false =>
    clear l1 l2 l3;go_enter Tryz.func183,Tryz.ntmps183
    go_wp2_with (fail)
    refine (c1 _).mono ?_;rintro e1 w1 ⟨rfl,rfl⟩;go_wp2_with (fail)
    refine (c2 _).mono ?_;rintro e1 w1 ⟨rfl,rfl⟩;go_wp2_with (fail)
    refine (c3 _).mono ?_;rintro e1 w1 ⟨rfl,rfl⟩;go_wp2;go_ret2;exact ⟨by rw [HC.out];rfl,0,rfl⟩
theorem cutM_le (s:By):(cutM s).1 < 8:=by
 unfold cutM;repeat' split
 all_goals simp
theorem and8 (m k:Nat) (hm:m < 8) (hk:k < 8):Go.bits .and .i64 (m:Int) (k:Int)=((m &&& k:Nat):Int):=by
 have h:∀m k:Fin 8,Go.bits .and .i64 ((m.val:Nat):Int) ((k.val:Nat):Int)=((m.val &&& k.val:Nat):Int):=by decide +kernel
 exact h ⟨m,hm⟩ ⟨k,hk⟩
theorem or8 (m k:Nat) (hm:m < 8) (hk:k < 8):Go.bits .or .i64 (m:Int) (k:Int)=((m ||| k:Nat):Int)∧m ||| k < 8:=by
 have h:∀m k:Fin 8,Go.bits .or .i64 ((m.val:Nat):Int) ((k.val:Nat):Int)=((m.val ||| k.val:Nat):Int)∧m.val ||| k.val < 8:=by decide +kernel
 exact h ⟨m,hm⟩ ⟨k,hk⟩
def msV (x:Option (Nat × By)):Value:=match x with
 | none=>.tuple #[.int .i64 0,.string ⟨#[]⟩,.bool false]
 | some (m,r)=>.tuple #[.int .i64 (m:Int),.string (ba r),.bool true]
set_option maxHeartbeats 1000000 in
theorem cutMarks_any (s:By) (w:World):Calls Tryz.prog 146 #[.string (ba s)] w fun e w'=>(e=.returned (msV (marks 0 s))∧∀m r,marks 0 s=some (m,r)→m < 8)∧∃n,w'=w.drewN n:=by
 obtain ⟨goal,HC⟩:∃g,Hid (marks 0 s=g):=⟨_,rfl⟩;rw [HC.out];go_enter Tryz.func146,Tryz.ntmps146
 go_wp2;go_loopw [0,2] (fun s0 s2 wr=>∃(t:By) (m:Nat) (n:Nat),s0=.string (ba t)∧s2=.int .i64 (m:Int)∧m < 8∧Hid (marks 0 s=marks m t)∧wr=w.drewN n)
  (fun s0 _ _=>match s0 with | .string x=>x.size | _=>0)
 case atStart=>exact ⟨s,0,0,rfl,rfl,by omega,rfl,rfl⟩
 case round =>
  obtain ⟨t,m,n,rfl,rfl,hm,HT,rfl⟩:=hrel;have hk:=cutM_le t;have hc:=cutMark_any t;have HL:=hid (cutM_len (s:=t));have HE:Hid (goal=if (cutM t).1=0 then some (m,t) else if m &&& (cutM t).1≠0 then none else marks (m ||| (cutM t).1) (cutM t).2):=by
   show _=_;rw [←HC.out,HT.out,marks_eq]
  obtain ⟨k,u,hku⟩:∃k u,cutM t=(k,u):=⟨_,_,rfl⟩;rw [hku] at hk hc HL HE;simp only [cmV] at hc;simp only at hk HL HE;have ha:=and8 m k hm hk;have ho:=(or8 m k hm hk).1;have ho2:=(or8 m k hm hk).2;generalize m &&& k=a at ha HE;have HE2:=HE;clear hku HT HE;by_cases h0:k=0
  · subst h0
    have HE3:goal=some (m,t):=HE2.out;clear ha ho HE2;subst HE3;go_wp2_with (go_at_call 183;refine (hc _).mono ?_;rintro e1 w1 ⟨rfl,n1,rfl⟩)
    refine bodyPost_ret (results_tmp3 rfl _ _ _) rfl ⟨⟨rfl,?_⟩,_,rfl⟩;intro m' r' h;cases h;exact hm
  · have hk0:((k:Int) == 0)=false:=by simp;omega
    have hku:(cutM t).2.length < t.length∨True:=.inr trivial;by_cases hz:a=0
    · subst hz
      have HE3:Hid (goal=marks (m ||| k) u):=HE2.out.trans ((if_neg h0).trans (if_neg (by simp)))
      have hl:=HL.out h0;generalize m ||| k=mk at ho ho2 HE3
      clear h0 HE2;go_wp2_with (go_at_call 183;refine (hc _).mono ?_;rintro e1 w1 ⟨rfl,n1,rfl⟩)
      refine ⟨⟨u,mk,_,rfl,rfl,ho2,HC.out.trans HE3.out,rfl⟩,?_⟩;simp [ba_size];exact hl
    · have HE3:goal=none:=HE2.out.trans ((if_neg h0).trans (if_pos hz))
      have ha0:((a:Int) == 0)=false:=by simp;omega
      have ha1:((a:Int) != 0)=true:=by simp;omega
      clear h0 HE2 hz;subst HE3;go_wp2_with (go_at_call 183;refine (hc _).mono ?_;rintro e1 w1 ⟨rfl,n1,rfl⟩)
      refine bodyPost_ret (results_tmp3 rfl _ _ _) rfl ⟨⟨rfl,?_⟩,_,rfl⟩;intro m' r' h;cases h
end Go.Proofs.YtahkcemdbfjilaaGreatDoor.Glob
