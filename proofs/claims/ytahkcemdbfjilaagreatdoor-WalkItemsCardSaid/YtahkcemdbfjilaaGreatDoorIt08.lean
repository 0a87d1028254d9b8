/- Several texts in one. Conditions: those said at each. -/
import Derived.Test.YtahkcemdbfjilaaGreatDoorIt00
import Derived.Test.YtahkcemdbfjilaaGreatDoorIt07
import Derived.Deep.MidRow
import Derived.Shelf.SlSortCmp.PartialInsertion1
import Derived.Shelf.SlSortCmp.Partition1
import Derived.Shelf.SlSortCmp.Pdq1
import Derived.Shelf.SlSortCmp.Whole1
import Derived.Shelf.SlSortCmp.NoneTotal
import Derived.Lib.OwnBridge
set_option linter.unusedSimpArgs false
set_option linter.unusedVariables false
set_option maxRecDepth 100000
namespace Go.Proofs.YtahkcemdbfjilaaGreatDoor
open Go.RowKit Go.Maps
set_option maxHeartbeats 2000000 in
theorem strClone_any (s:By) (w:World) (hs:s.length≤1000000):Calls Tryz.prog 78 #[kS s] w fun e w'=>e=.returned (kS s)∧Below w.heap.size w w':=by
 have C:=hid (Tryz.stringslite_Clone (ba s) w (by rw [ba_size];omega))
 go_enter Tryz.func78,Tryz.ntmps78
 go_wp2_with (go_at_call 126;refine C.out.mono ?_;rintro e1 w1 ⟨rfl,hb1⟩)
 go_ret;exact ⟨rfl,hb1⟩
theorem Has.again {w:World} {g:Nat} {t:TypeId} {v:Value} (h:Has w g t #[v]):Has (w.setCell ⟨g,0,none⟩ v) g t #[v]:=h.put 0 v
theorem Has.again2 {w:World} {g k:Nat} {t t2:TypeId} {v u:Value} (h:Has w g t #[v]) (hk:Has w k t2 #[u]):Has (w.setCell ⟨k,0,none⟩ u) g t #[v]:=by
 by_cases e:g=k
 · subst e
   unfold Has at h hk;rw [h] at hk;injection hk with hk;injection hk with h1 h2;injection h1 with h1;injection h1 with h1 _;subst h1;exact Has.again h
 · exact h.other e u
structure CL (w:World) (b1 b2:Nat) (p d:By) (W:World):Prop where
 bx:BxA b1 b2 p d W
 bl:Below w.heap.size w W
theorem CL.drew {w W:World} {b1 b2:Nat} {p d:By} (h:CL w b1 b2 p d W):CL w b1 b2 p d W.drew:=⟨h.bx.drew,h.bl.drew⟩
theorem CL.on {w W W':World} {b1 b2:Nat} {p d:By} (h:CL w b1 b2 p d W) (hb:Below W.heap.size W W'):CL w b1 b2 p d W':=⟨h.bx.gx (Gx.of_below hb),h.bl.trans (hb.mono h.bl.size)⟩
theorem CL.set1 {w W:World} {b1 b2:Nat} {p d:By} (h:CL w b1 b2 p d W) (h1:w.heap.size≤b1):CL w b1 b2 p d (W.setCell ⟨b1,0,none⟩ (kS p)):=⟨⟨h.bx.x1.again,h.bx.x2.again2 h.bx.x1⟩,h.bl.setCell h1 _⟩
theorem CL.set2 {w W:World} {b1 b2:Nat} {p d:By} (h:CL w b1 b2 p d W) (h2:w.heap.size≤b2):CL w b1 b2 p d (W.setCell ⟨b2,0,none⟩ (kS d)):=⟨⟨h.bx.x1.again2 h.bx.x2,h.bx.x2.again⟩,h.bl.setCell h2 _⟩
set_option maxHeartbeats 8000000 in
theorem dWrite_any {own:Nat→Prop} {w:World} {q:Nat} {M:Mo} (h:Dsk own w q M) (hG:Gd w) (p d:By) (tm:Int) (hp:p.length≤4000) (hd:d.length≤1000000) (hlen:M.since.length+1≤100000) :
 Calls Tryz.prog 39 #[.pointer (some ⟨q,0,none⟩),kS p,kS d,.int .i64 tm] w fun e w'=>e=.returned (.int .i64 (doM M (.write p d tm)).1)∧DPost own w q (doM M (.write p d tm)).2 w':=by
 have H:=hid h;have HG:=hid hG;have HL:=hid hlen;have P0:Hid (CL w w.heap.size (w.heap.size+1) p d ((((w.alloc (.cells #[kS p] 9)).alloc (.cells #[kS d] 9)).alloc (.cells #[.int .i64 tm] 2)))):=by
  refine ⟨⟨?_,?_⟩,?_⟩
  · exact ((Has.fresh w _ _).more _).more _
  · exact (Has.fresh' (w.alloc _) _ _ (by simp)).more _
  · exact (((Below.refl _ _).alloc (Nat.le_refl _) _).alloc (by simp) _).alloc (by simp;omega) _
 have X3:Hid (Has ((((w.alloc (.cells #[kS p] 9)).alloc (.cells #[kS d] 9)).alloc (.cells #[.int .i64 tm] 2))).drew (w.heap.size+2) 2 #[.int .i64 tm]):=Has.fresh' _ _ _ (by simp)
 have C1:=hid (fun W=>strClone_any p W (by omega))
 have C2:=hid (fun W=>strClone_any d W (by omega))
 clear h hG hlen;go_enter Tryz.func39,Tryz.ntmps39
 go_wp2;refine wp_region_noPanic ?_;refine wp_region_held_drew (S:=CL w w.heap.size (w.heap.size+1) p d) (by kernel_rfl) (P0.out.drew) (fun hS=>?_)
 refine tkH 0 (v:=?_) (by simp only [lkA,lkB];rfl) (by kernel_rfl) (fun _ _ _ h=>h) (by rfl) (by assumption) ?_ ?_
 rotate_left 1
 · intro w hSw
   have hc:=hSw.bx.x1.at_ 0;go_simp
   with_reducible rfl
 simp only [Act.put,siA,siB,siC];refine tkH 2 (v:=?_) (by simp only [lkA,lkB,lkC];rfl) (by kernel_rfl) (fun _ _ _ h=>h) (by rfl) (by assumption) ?_ ?_
 rotate_left 1
 · intro w hSw
   have hc:=hSw.bx.x2.at_ 0;go_simp
   with_reducible rfl
 simp only [Act.put,siA,siB,siC];refine wpAnyH_ready (rs:=[1]) (by kernel_rfl) (by simp) ?_
 refine AllReadyH.cons (by simp only [lkA,lkB,lkC];rfl) (fun K hK=>?_) AllReadyH.nil
 go_simp;refine (C1.out _).mono ?_;rintro e1 w1 ⟨rfl,hb1⟩;have hz1:=P0.out.drew.on hb1;refine hK.out _ _ hz1 (fun hS=>?_)
 clear hK K hS;refine wpAnyH_ready (rs:=[3]) (by kernel_rfl) (by simp) ?_
 refine AllReadyH.cons (by simp only [lkA,lkB,lkC];rfl) (fun K hK=>?_) AllReadyH.nil
 go_simp;refine (C2.out _).mono ?_;rintro e2 w2 ⟨rfl,hb2⟩;have hz2:=hz1.on hb2;refine hK.out _ _ hz2 (fun hS=>?_)
 clear hK K hS;have X3b:Hid (Has w2 (w.heap.size+2) 2 #[.int .i64 tm]):=(X3.out.gx (.inr rfl) (Gx.of_below hb1)).gx (.inr rfl) (Gx.of_below hb2);have P2:=hid hz2;clear hz1 hz2 hb1 hb2;have hc1:=P2.out.bx.x1.at_ 0;have hf1:=P2.out.bx.x1.free 0;refine wpAnyH_ready (rs:=[4]) (by kernel_rfl) (by simp) ?_
 refine AllReadyH.cons (by simp only [lkA,lkB,lkC];rfl) (fun K hK=>?_) AllReadyH.nil
 go_simp;refine hK.out _ _ (P2.out.set1 (Nat.le_refl _)) (fun hS=>?_)
 clear hK K hS;have P3:=hid (P2.out.set1 (Nat.le_refl _));have hc2:=P3.out.bx.x2.at_ 0;have hf2:=P3.out.bx.x2.free 0;refine wpAnyH_ready (rs:=[5]) (by kernel_rfl) (by simp) ?_
 refine AllReadyH.cons (by simp only [lkA,lkB,lkC];rfl) (fun K hK=>?_) AllReadyH.nil
 go_simp;refine hK.out _ _ (P3.out.set2 (Nat.le_succ _)) (fun hS=>?_)
 clear hK K hS;refine wpAnyH_done (by kernel_rfl) ?_ _
 refine NoPanic.normal ?_;have P4:=hid (P3.out.set2 (Nat.le_succ _));have X4:Hid (Has ((w2.setCell ⟨w.heap.size,0,none⟩ (kS p)).setCell ⟨w.heap.size+1,0,none⟩ (kS d)) (w.heap.size+2) 2 #[.int .i64 tm]):=(X3b.out.other (p:=⟨w.heap.size,0,none⟩) (by show _≠w.heap.size;omega) _).other (p:=⟨w.heap.size+1,0,none⟩) (by show _≠w.heap.size+1;omega) _
 clear hc1 hf1 hc2 hf2;have CD:=hid (ddo_any (H.out.on P4.out.bl) (HG.out.kept P4.out.bl) _ (.write p d tm) (eff_write ⟨P4.out.bx.x1,P4.out.bx.x2,X4.out⟩ hp hd) HL.out);go_wp2_with fail
 refine CD.out.mono ?_;rintro e3 w3 ⟨rfl,h3⟩;have H3:=hid h3;clear h3;go_wp2;go_ret;exact ⟨rfl,DPost.ahead P4.out.bl H3.out⟩
set_option maxHeartbeats 8000000 in
theorem dLink_any {own:Nat→Prop} {w:World} {q:Nat} {M:Mo} (h:Dsk own w q M) (hG:Gd w) (p d:By) (tm:Int) (hp:p.length≤4000) (hd:d.length≤1000000) (hlen:M.since.length+1≤100000) :
 Calls Tryz.prog 40 #[.pointer (some ⟨q,0,none⟩),kS p,kS d,.int .i64 tm] w fun e w'=>e=.returned (.int .i64 (doM M (.link p d tm)).1)∧DPost own w q (doM M (.link p d tm)).2 w':=by
 have H:=hid h;have HG:=hid hG;have HL:=hid hlen;have P0:Hid (CL w w.heap.size (w.heap.size+1) p d ((((w.alloc (.cells #[kS p] 9)).alloc (.cells #[kS d] 9)).alloc (.cells #[.int .i64 tm] 2)))):=by
  refine ⟨⟨?_,?_⟩,?_⟩
  · exact ((Has.fresh w _ _).more _).more _
  · exact (Has.fresh' (w.alloc _) _ _ (by simp)).more _
  · exact (((Below.refl _ _).alloc (Nat.le_refl _) _).alloc (by simp) _).alloc (by simp;omega) _
 have X3:Hid (Has ((((w.alloc (.cells #[kS p] 9)).alloc (.cells #[kS d] 9)).alloc (.cells #[.int .i64 tm] 2))).drew (w.heap.size+2) 2 #[.int .i64 tm]):=Has.fresh' _ _ _ (by simp)
 have C1:=hid (fun W=>strClone_any p W (by omega))
 have C2:=hid (fun W=>strClone_any d W (by omega))
 clear h hG hlen;go_enter Tryz.func40,Tryz.ntmps40
 go_wp2;refine wp_region_noPanic ?_;refine wp_region_held_drew (S:=CL w w.heap.size (w.heap.size+1) p d) (by kernel_rfl) (P0.out.drew) (fun hS=>?_)
 refine tkH 0 (v:=?_) (by simp only [lkA,lkB];rfl) (by kernel_rfl) (fun _ _ _ h=>h) (by rfl) (by assumption) ?_ ?_
 rotate_left 1
 · intro w hSw
   have hc:=hSw.bx.x1.at_ 0;go_simp
   with_reducible rfl
 simp only [Act.put,siA,siB,siC];refine tkH 2 (v:=?_) (by simp only [lkA,lkB,lkC];rfl) (by kernel_rfl) (fun _ _ _ h=>h) (by rfl) (by assumption) ?_ ?_
 rotate_left 1
 · intro w hSw
   have hc:=hSw.bx.x2.at_ 0;go_simp
   with_reducible rfl
 simp only [Act.put,siA,siB,siC];refine wpAnyH_ready (rs:=[1]) (by kernel_rfl) (by simp) ?_
 refine AllReadyH.cons (by simp only [lkA,lkB,lkC];rfl) (fun K hK=>?_) AllReadyH.nil
 go_simp;refine (C1.out _).mono ?_;rintro e1 w1 ⟨rfl,hb1⟩;have hz1:=P0.out.drew.on hb1;refine hK.out _ _ hz1 (fun hS=>?_)
 clear hK K hS;refine wpAnyH_ready (rs:=[3]) (by kernel_rfl) (by simp) ?_
 refine AllReadyH.cons (by simp only [lkA,lkB,lkC];rfl) (fun K hK=>?_) AllReadyH.nil
 go_simp;refine (C2.out _).mono ?_;rintro e2 w2 ⟨rfl,hb2⟩;have hz2:=hz1.on hb2;refine hK.out _ _ hz2 (fun hS=>?_)
 clear hK K hS;have X3b:Hid (Has w2 (w.heap.size+2) 2 #[.int .i64 tm]):=(X3.out.gx (.inr rfl) (Gx.of_below hb1)).gx (.inr rfl) (Gx.of_below hb2);have P2:=hid hz2;clear hz1 hz2 hb1 hb2;have hc1:=P2.out.bx.x1.at_ 0;have hf1:=P2.out.bx.x1.free 0;refine wpAnyH_ready (rs:=[4]) (by kernel_rfl) (by simp) ?_
 refine AllReadyH.cons (by simp only [lkA,lkB,lkC];rfl) (fun K hK=>?_) AllReadyH.nil
 go_simp;refine hK.out _ _ (P2.out.set1 (Nat.le_refl _)) (fun hS=>?_)
 clear hK K hS;have P3:=hid (P2.out.set1 (Nat.le_refl _));have hc2:=P3.out.bx.x2.at_ 0;have hf2:=P3.out.bx.x2.free 0;refine wpAnyH_ready (rs:=[5]) (by kernel_rfl) (by simp) ?_
 refine AllReadyH.cons (by simp only [lkA,lkB,lkC];rfl) (fun K hK=>?_) AllReadyH.nil
 go_simp;refine hK.out _ _ (P3.out.set2 (Nat.le_succ _)) (fun hS=>?_)
 clear hK K hS;refine wpAnyH_done (by kernel_rfl) ?_ _
 refine NoPanic.normal ?_;have P4:=hid (P3.out.set2 (Nat.le_succ _));have X4:Hid (Has ((w2.setCell ⟨w.heap.size,0,none⟩ (kS p)).setCell ⟨w.heap.size+1,0,none⟩ (kS d)) (w.heap.size+2) 2 #[.int .i64 tm]):=(X3b.out.other (p:=⟨w.heap.size,0,none⟩) (by show _≠w.heap.size;omega) _).other (p:=⟨w.heap.size+1,0,none⟩) (by show _≠w.heap.size+1;omega) _
 clear hc1 hf1 hc2 hf2;have CD:=hid (ddo_any (H.out.on P4.out.bl) (HG.out.kept P4.out.bl) _ (.link p d tm) (eff_link ⟨P4.out.bx.x1,P4.out.bx.x2,X4.out⟩ hp hd) HL.out);go_wp2_with fail
 refine CD.out.mono ?_;rintro e3 w3 ⟨rfl,h3⟩;have H3:=hid h3;clear h3;go_wp2;go_ret;exact ⟨rfl,DPost.ahead P4.out.bl H3.out⟩
set_option maxHeartbeats 8000000 in
theorem dMkdir_any {own:Nat→Prop} {w:World} {q:Nat} {M:Mo} (h:Dsk own w q M) (hG:Gd w) (p:By) (hp:p.length≤4000) (hlen:M.since.length+1≤100000) :
 Calls Tryz.prog 37 #[.pointer (some ⟨q,0,none⟩),kS p] w fun e w'=>e=.returned (.int .i64 (doM M (.mkdir p)).1)∧DPost own w q (doM M (.mkdir p)).2 w':=by
 have H:=hid h;have HG:=hid hG;have HL:=hid hlen;have X0:Hid (Has (w.alloc (.cells #[kS p] 9)) w.heap.size 9 #[kS p]):=Has.fresh _ _ _;have B0:Hid (Below w.heap.size w (w.alloc (.cells #[kS p] 9))):=(Below.refl _ _).alloc (Nat.le_refl _) _;have C1:=hid (strClone_any p (w.alloc (.cells #[kS p] 9)) (by omega))
 clear h hG hlen;go_enter Tryz.func37,Tryz.ntmps37
 go_wp2_with fail
 refine C1.out.mono ?_;rintro e1 w1 ⟨rfl,hb1⟩;have X1:Hid (Has w1 w.heap.size 9 #[kS p]):=X0.out.gx (.inl rfl) (Gx.of_below hb1);have B1:=hid (B0.out.trans (hb1.mono B0.out.size));have hc1:=X1.out.at_ 0;have hf1:=X1.out.free 0;clear hb1;go_wp2_with fail
 have B2:Hid (Below w.heap.size w (w1.setCell ⟨w.heap.size,0,none⟩ (kS p))):=B1.out.setCell (Nat.le_refl _) _;have CD:=hid (ddo_any (H.out.on B2.out) (HG.out.kept B2.out) _ (.mkdir p) (eff_mkdir X1.out.again hp) HL.out);refine CD.out.mono ?_;rintro e3 w3 ⟨rfl,h3⟩;have H3:=hid h3;clear h3;go_wp2;go_ret;exact ⟨rfl,DPost.ahead B2.out H3.out⟩
end Go.Proofs.YtahkcemdbfjilaaGreatDoor
namespace Go.Proofs.YtahkcemdbfjilaaGreatDoor
open Go.RowKit Go.Maps
theorem iTree:(Tryz.prog.info? 126).map (·.size)=some 3:=by kernel_rfl
def TreeV (w:World) (L:Tr) (u room:Nat) (e:Ending) (w':World):Prop :=
 ∃m,e=.returned (.agg #[.map (some m),.int .i64 (u:Int),.int .i64 (room:Int)])∧MapT w' m L∧w.heap.size≤m∧Below w.heap.size w w'
set_option maxHeartbeats 2000000 in
theorem newTree_any (room:Nat) (w:World):Calls Tryz.prog 77 #[.int .i64 (room:Int)] w fun e w'=>TreeV w [] 0 room e w':=by
 have hmm:=@run_makeMap Tryz.prog;have M1:Hid (MapT ((w.alloc (.cells #[.map (some (w.heap.size+1)),.int .i64 0,.int .i64 (room:Int)] 126)).alloc (.map #[] 0)) (w.heap.size+1) []):=by
  have:=MapT.made (w.alloc (.cells #[.map (some (w.heap.size+1)),.int .i64 0,.int .i64 (room:Int)] 126));show MapT _ _ _
  simpa using this
 have H1:Hid (Has ((w.alloc (.cells #[.map (some (w.heap.size+1)),.int .i64 0,.int .i64 (room:Int)] 126)).alloc (.map #[] 0)) w.heap.size 126 #[.map (some (w.heap.size+1)),.int .i64 0,.int .i64 (room:Int)]):=(Has.fresh _ _ _).more _;have B1:Hid (Below w.heap.size w ((w.alloc (.cells #[.map (some (w.heap.size+1)),.int .i64 0,.int .i64 (room:Int)] 126)).alloc (.map #[] 0))):=((Below.refl _ _).alloc (Nat.le_refl _) _).alloc (by simp) _
 go_enter Tryz.func77,Tryz.ntmps77
 go_wp2;refine bodyPost_ret (results_cell_row rfl _ _ w.heap.size 126 _ (0,0) _ rfl H1.out Tryz.underlying126 rfl iTree) rfl ?_;exact ⟨w.heap.size+1,rfl,M1.out,Nat.le_succ _,B1.out⟩
def NewP (room:Nat) (w:World) (e:Ending) (w':World):Prop:=∃own p,e=.returned (.tuple #[.pointer (some ⟨p,0,none⟩),.int .i64 0])∧Dsk own w' p (newM room)∧(∀g,own g→w.heap.size≤g)∧Below w.heap.size w w'
theorem dsk_new {w:World} {m1 m2 room:Nat} (h1:MapT w m1 []) (h2:MapT w m2 []) (hne:m1≠m2) (r0:1024≤room) (r1:room≤1048576) (B:Nat) (hB:B≤w.heap.size) (b1:B≤m1) (b2:B≤m2) :
 ∃own,Dsk own (w.alloc (.cells (cellsD m1 m2 (.slice none 0 0) (newM room)) 129)) w.heap.size (newM room)∧∀g,own g→B≤g:=by
 have hf:=Has.fresh w 129 (cellsD m1 m2 (.slice none 0 0) (newM room));have k1:MapT (w.alloc (.cells (cellsD m1 m2 (.slice none 0 0) (newM room)) 129)) m1 []:=h1.kept (Below.heap_alloc _ _ _ h1.inside);have k2:MapT (w.alloc (.cells (cellsD m1 m2 (.slice none 0 0) (newM room)) 129)) m2 []:=h2.kept (Below.heap_alloc _ _ _ h2.inside);refine ⟨fun g=>g=w.heap.size∨g=m1∨g=m2,⟨m1,m2,.slice none 0 0,[],?_⟩,?_⟩
 · refine ⟨?_,?_,hf,.inl rfl,.inr (.inl rfl),.inr (.inr rfl),k1,k2,hne,World.ownsRow_nil _ _ _ _,fun b hb=>(by cases hb),⟨rfl,fun i h=>(by simp at h)⟩,Good.new room,r0,r1,Nat.zero_le _⟩
   · rintro g (e | e | e)<;>rw [e]
     · exact hf.inside
     · exact k1.inside
     · exact k2.inside
   · rintro g (e | e | e)<;>rw [e]
     · exact hf.loose (by decide)
     · exact k1.loose
     · exact k2.loose
 · rintro g (e | e | e)<;>omega
set_option maxHeartbeats 4000000 in
theorem dNew_any (room:Nat) (w:World) (r0:1024≤room) (r1:room≤1048576):Calls Tryz.prog 34 #[.int .i64 (room:Int)] w fun e w'=>NewP room w e w':=by
 have C1:=hid (fun W=>newTree_any room W)
 have d1:decide ((room:Int) < 1024)=false:=by simp;omega
 have d2:decide ((1048576:Int) < (room:Int))=false:=by simp;omega
 have R0:=hid r0;have R1:=hid r1;go_enter Tryz.func34,Tryz.ntmps34
 go_wp2_with fail
 refine (C1.out _).mono ?_;rintro e1 w1 ⟨m1,rfl,hm1,hl1,hb1⟩;have M1:=hid hm1;have B1:=hid hb1;have L1:=hid hl1;clear hm1 hb1 hl1;go_wp2_with fail
 refine (C1.out _).mono ?_;rintro e2 w2 ⟨m2,rfl,hm2,hl2,hb2⟩;have M2:=hid hm2;have M12:Hid (MapT w2 m1 []):=M1.out.kept (hb2.block m1 M1.out.inside);have B2:=hid (B1.out.trans (hb2.mono B1.out.size));have L2:=hid hl2;have HNE:Hid (m1≠m2):=by have:=M1.out.inside;show ¬_;omega
 have HL2:Hid (w.heap.size≤m2):=Nat.le_trans B1.out.size hl2;clear hm2 hb2 hl2;go_wp2;go_ret2;obtain ⟨own,k1,k2⟩:=dsk_new M12.out M2.out HNE.out R0.out R1.out w.heap.size B2.out.size L1.out HL2.out;exact ⟨own,w2.heap.size,rfl,k1,k2,B2.out.alloc B2.out.size _⟩
end Go.Proofs.YtahkcemdbfjilaaGreatDoor
namespace Go.Proofs.YtahkcemdbfjilaaGreatDoor
open Go.RowKit Go.Maps
theorem Has.there {w:World} {g:Nat} {t:TypeId} {cs:Array Value} (h:Has w g t cs) (o n:Nat) (hn:o+n≤cs.size):w.there g o n:=fun j hj=>by
 refine ⟨?_,h.free _⟩;rw [h.at_,Array.getElem?_eq_getElem (by omega)];rfl
end Go.Proofs.YtahkcemdbfjilaaGreatDoor
namespace Go.Proofs.YtahkcemdbfjilaaGreatDoor
open Go.RowKit Go.Maps
theorem iNode:(Tryz.prog.info? 71).map (·.size)=some 4:=by kernel_rfl
theorem results_cell_tmp {fn:Func} {c:Nat} {t:Tmp} (h:fn.results=#[.cell c 71,.tmp t]) (tmps:Array Value) (w:World) (g:Nat) (cs:Array Value) (hc:tmps.getD c undef=.pointer (some ⟨g,0,none⟩)) (hg:Has w g 71 cs) (hi:cs.size=4) :
 (results fn tmps).run Tryz.prog w=.ok (.tuple #[.agg cs,tmps.getD t undef]) w:=by
 have hp':tmps[c]?.getD undef=.pointer (some ⟨g,0,none⟩):=by simpa using hc
 have hl:=run_loadVar_row (P:=Tryz.prog) w g 71 71 cs (0,0) _ hg Tryz.underlying71 rfl (by rw [hi];exact iNode)
 simp [results,h,hp',asAddr,hl]
section
variable {own:Nat→Prop} {w:World} {p:Nat} {M:Mo}
def readM (L:Tr) (p:By):Nd × Int:=if mayB p then (match look L p with | some n=>(n,0) | none=>(n0,5)) else (n0,10)
def ReadP (w:World) (r:Nd × Int) (e:Ending) (w':World):Prop:=e=.returned (.tuple #[nodeV r.1,.int .i64 r.2])∧Below w.heap.size w w'
set_option maxHeartbeats 4000000 in
theorem dRead_any (h:Dsk own w p M) (hG:Gd w) (s:By) (hs:s.length≤4000):Calls Tryz.prog 61 #[.pointer (some ⟨p,0,none⟩),kS s] w fun e w'=>ReadP w (readM M.now s) e w':=by
 obtain ⟨m1,m2,sv,vs,h⟩:=h;have B0:Hid (Below w.heap.size w (w.alloc (.cells #[.int .i64 0,.string ⟨#[]⟩,.string ⟨#[]⟩,.int .i64 0] 71))):=(Below.refl _ _).alloc (Nat.le_refl _) _;have H:=hid h;have C1:Hid (∀W,Below w.heap.size w W→Calls Tryz.prog 59 #[.pointer (some ⟨p,0,none⟩)] W fun e w'=>e=.returned (.bool true)∧W=w'):=fun W hb=>dmade_any (m1:=m1) ((h.on hb).has.at_ 0)
 cases hm:mayB s with
 | false =>
  have C2:Hid (∀W,Below w.heap.size w W→Calls Tryz.prog 99 #[kS s] W fun e w'=>e=.returned (.bool false)∧Below W.heap.size W w'):=fun W hb=>mayk_any s false hm W (hG.kept hb) hs
  have HR:Hid (readM M.now s=(n0,10)):=by show _=_;unfold readM;rw [hm];rfl
  clear h hG hm;go_enter Tryz.func61,Tryz.ntmps61
  go_wp2_with fail
  refine (C1.out _ B0.out).mono ?_;rintro e1 w1 ⟨rfl,rfl⟩;go_wp2_with fail
  refine (C2.out _ B0.out).mono ?_;rintro e2 w2 ⟨rfl,hb2⟩;have B2:=hid (B0.out.trans (hb2.mono B0.out.size));have X2:Hid (Has w2 w.heap.size 71 #[.int .i64 0,.string ⟨#[]⟩,.string ⟨#[]⟩,.int .i64 0]):=(Has.fresh w _ _).kept hb2 (by simp)
  clear hb2;go_wp2_with (refine wpList_store_row rfl 71 (.tmp 4) (.tmp 15) rfl w.heap.size #[.int .i64 0,.string ⟨#[]⟩,.string ⟨#[]⟩,.int .i64 0] rfl rfl 71 _ X2.out (by kernel_rfl) rfl (by simp [Value.oneCell']) ?_)
  refine bodyPost_ret (results_cell_tmp rfl _ _ w.heap.size #[.int .i64 0,.string ⟨#[]⟩,.string ⟨#[]⟩,.int .i64 0] rfl (X2.out.row) rfl) rfl ?_;rw [HR.out];exact ⟨rfl,B2.out.rowK (Nat.le_refl _) _⟩
 | true =>
  have C2:Hid (∀W,Below w.heap.size w W→Calls Tryz.prog 99 #[kS s] W fun e w'=>e=.returned (.bool true)∧Below W.heap.size W w'):=fun W hb=>mayk_any s true hm W (hG.kept hb) hs
  cases hl:look M.now s with
  | none =>
   have C3:Hid (∀W,Below w.heap.size w W→Calls Tryz.prog 106 #[.pointer (some ⟨p,0,none⟩),kS s] W fun e w'=>e=.returned (.bool false)∧Below W.heap.size W w'):=fun W hb=>by
    have:=thas_any (h.on hb).tr1 s hs;unfold hasB at this;rw [hl] at this;exact this
   have HR:Hid (readM M.now s=(n0,5)):=by show _=_;unfold readM;rw [hm,hl];rfl
   clear h hG hm hl;go_enter Tryz.func61,Tryz.ntmps61
   go_wp2_with fail
   refine (C1.out _ B0.out).mono ?_;rintro e1 w1 ⟨rfl,rfl⟩;go_wp2_with fail
   refine (C2.out _ B0.out).mono ?_;rintro e2 w2 ⟨rfl,hb2⟩;have B2:=hid (B0.out.trans (hb2.mono B0.out.size));have X2:Hid (Has w2 w.heap.size 71 #[.int .i64 0,.string ⟨#[]⟩,.string ⟨#[]⟩,.int .i64 0]):=(Has.fresh w _ _).kept hb2 (by simp)
   clear hb2;go_wp2_with fail
   refine (C3.out _ B2.out).mono ?_;rintro e3 w3 ⟨rfl,hb3⟩;have B3:=hid (B2.out.trans (hb3.mono B2.out.size));have X3:Hid (Has w3 w.heap.size 71 #[.int .i64 0,.string ⟨#[]⟩,.string ⟨#[]⟩,.int .i64 0]):=X2.out.kept hb3 X2.out.inside;clear hb3;go_wp2_with (refine wpList_store_row rfl 71 (.tmp 4) (.tmp 23) rfl w.heap.size #[.int .i64 0,.string ⟨#[]⟩,.string ⟨#[]⟩,.int .i64 0] rfl rfl 71 _ X3.out (by kernel_rfl) rfl (by simp [Value.oneCell']) ?_)
   refine bodyPost_ret (results_cell_tmp rfl _ _ w.heap.size #[.int .i64 0,.string ⟨#[]⟩,.string ⟨#[]⟩,.int .i64 0] rfl (X3.out.row) rfl) rfl ?_;rw [HR.out];exact ⟨rfl,B3.out.rowK (Nat.le_refl _) _⟩
  | some n =>
   obtain ⟨k0,d0,x0,t0⟩:=n;have C3:Hid (∀W,Below w.heap.size w W→Calls Tryz.prog 106 #[.pointer (some ⟨p,0,none⟩),kS s] W fun e w'=>e=.returned (.bool true)∧Below W.heap.size W w'):=fun W hb=>by
    have:=thas_any (h.on hb).tr1 s hs;unfold hasB at this;rw [hl] at this;exact this
   have C4:Hid (∀W,Below w.heap.size w W→W.cell? ⟨p,0,none⟩=some (.map (some m1))∧(Instr.lookup 124 (.map (some m1)) (kS s) false).run Tryz.prog W=.ok (.agg #[.int .i64 k0,kS d0,kS x0,.int .i64 t0]) W):=fun W hb=>by
    have h':=h.on hb;have:=h'.t1.look (p:=s) (maxLen_le hs);rw [hl] at this;exact ⟨h'.has.at_ 0,this⟩
   have HR:Hid (readM M.now s=(⟨k0,d0,x0,t0⟩,0)):=by show _=_;unfold readM;rw [hm,hl];rfl
   clear h hG hm hl;go_enter Tryz.func61,Tryz.ntmps61
   go_wp2_with fail
   refine (C1.out _ B0.out).mono ?_;rintro e1 w1 ⟨rfl,rfl⟩;go_wp2_with fail
   refine (C2.out _ B0.out).mono ?_;rintro e2 w2 ⟨rfl,hb2⟩;have B2:=hid (B0.out.trans (hb2.mono B0.out.size));have X2:Hid (Has w2 w.heap.size 71 #[.int .i64 0,.string ⟨#[]⟩,.string ⟨#[]⟩,.int .i64 0]):=(Has.fresh w _ _).kept hb2 (by simp)
   clear hb2;go_wp2_with fail
   refine (C3.out _ B2.out).mono ?_;rintro e3 w3 ⟨rfl,hb3⟩;have B3:=hid (B2.out.trans (hb3.mono B2.out.size));have X3:Hid (Has w3 w.heap.size 71 #[.int .i64 0,.string ⟨#[]⟩,.string ⟨#[]⟩,.int .i64 0]):=X2.out.kept hb3 X2.out.inside;obtain ⟨c0,hlk⟩:=C4.out _ B3.out;clear hb3;go_wp2_with (refine wpList_store_row rfl 71 (.tmp 4) (.tmp 30) rfl w.heap.size #[.int .i64 k0,kS d0,kS x0,.int .i64 t0] rfl rfl 71 _ X3.out (by kernel_rfl) rfl (by simp [Value.oneCell']) ?_)
   refine bodyPost_ret (results_cell_tmp rfl _ _ w.heap.size #[.int .i64 k0,kS d0,kS x0,.int .i64 t0] rfl (X3.out.row) rfl) rfl ?_;rw [HR.out];exact ⟨rfl,B3.out.rowK (Nat.le_refl _) _⟩
end
end Go.Proofs.YtahkcemdbfjilaaGreatDoor
namespace Go.Proofs
open Go.Shelf
def Tryz.laysSlF6_f167_ren:Go.Shelf.Ren:=⟨fun | 6=>167 | 15=>191 | 14=>204 | 28=>231 | 29=>232 | 20=>238 | 21=>239 | 22=>240 | 23=>241 | 24=>242 | 25=>243 | 26=>244 | 27=>245 | 46=>270 | 47=>262 | 48=>263 | 49=>271 | 50=>272 | 57=>276 | n=>n,fun | 22=>34 | 24=>9 | 25=>231 | 3=>3 | 39=>239 | 0=>0 | 53=>53 | 55=>266 | 4=>4 | 46=>286 | 45=>285 | 50=>108 | 5=>5 | 9=>9 | 66=>319 | 70=>323 | 76=>330 | 77=>331 | n=>n,fun | n=>n⟩
theorem Tryz.laysSlF6_f167:Go.Proofs.SlLaysF.n6 Tryz.prog Tryz.laysSlF6_f167_ren:={
 mixed:=by kernel_rfl
 f6:=⟨Tryz.f167.name,by decide,Tryz.func167.trans (congrArg some (by kernel_rfl))⟩
 f14:=⟨Tryz.f204.name,by decide,Tryz.func204.trans (congrArg some (by kernel_rfl))⟩
 f15:=Tryz.func191.trans (congrArg some (by kernel_rfl))
 f20:=⟨Tryz.f238.name,by decide,Tryz.func238.trans (congrArg some (by kernel_rfl))⟩
 f21:=⟨Tryz.f239.name,by decide,Tryz.func239.trans (congrArg some (by kernel_rfl))⟩
 f22:=⟨Tryz.f240.name,by decide,Tryz.func240.trans (congrArg some (by kernel_rfl))⟩
 f23:=⟨Tryz.f241.name,by decide,Tryz.func241.trans (congrArg some (by kernel_rfl))⟩
 f24:=⟨Tryz.f242.name,by decide,Tryz.func242.trans (congrArg some (by kernel_rfl))⟩
 f25:=⟨Tryz.f243.name,by decide,Tryz.func243.trans (congrArg some (by kernel_rfl))⟩
 f26:=⟨Tryz.f244.name,by decide,Tryz.func244.trans (congrArg some (by kernel_rfl))⟩
 f27:=⟨Tryz.f245.name,by decide,Tryz.func245.trans (congrArg some (by kernel_rfl))⟩
 f28:=Tryz.func231.trans (congrArg some (by kernel_rfl))
 f29:=Tryz.func232.trans (congrArg some (by kernel_rfl))
 f46:=⟨Tryz.f270.name,by decide,Tryz.func270.trans (congrArg some (by kernel_rfl))⟩
 f47:=Tryz.func262.trans (congrArg some (by kernel_rfl))
 f48:=Tryz.func263.trans (congrArg some (by kernel_rfl))
 f49:=⟨Tryz.f271.name,by decide,Tryz.func271.trans (congrArg some (by kernel_rfl))⟩
 f50:=⟨Tryz.f272.name,by decide,Tryz.func272.trans (congrArg some (by kernel_rfl))⟩
 f57:=⟨Tryz.f276.name,by decide,Tryz.func276.trans (congrArg some (by kernel_rfl))⟩
 t0:=Tryz.underlying0
 a0:=Tryz.isAgg0
 z0:=Tryz.sizeOf0
 v0:=Tryz.zeroValue0
 t3:=Tryz.underlying3
 a3:=Tryz.isAgg3
 z3:=Tryz.sizeOf3
 v3:=Tryz.zeroValue3
 t4:=Tryz.underlying4
 a4:=Tryz.isAgg4
 z4:=Tryz.sizeOf4
 v4:=Tryz.zeroValue4
 t5:=Tryz.underlying5
 a5:=Tryz.isAgg5
 z5:=Tryz.sizeOf5
 v5:=Tryz.zeroValue5
 t9:=Tryz.underlying9
 a9:=Tryz.isAgg9
 z9:=Tryz.sizeOf9
 v9:=Tryz.zeroValue9
 t22:=Tryz.underlying34
 a22:=Tryz.isAgg34
 z22:=Tryz.sizeOf34
 v22:=Tryz.zeroValue34
 a24:=Tryz.isAgg9
 z24:=Tryz.sizeOf9
 t25:=Tryz.underlying231
 a25:=Tryz.isAgg231
 z25:=Tryz.sizeOf231
 v25:=Tryz.zeroValue231
 t39:=Tryz.underlying239
 a39:=Tryz.isAgg239
 z39:=Tryz.sizeOf239
 v39:=Tryz.zeroValue239
 t45:=Tryz.underlying285
 a45:=Tryz.isAgg285
 z45:=Tryz.sizeOf285
 v45:=Tryz.zeroValue285
 t46:=Tryz.underlying286
 a46:=Tryz.isAgg286
 z46:=Tryz.sizeOf286
 v46:=Tryz.zeroValue286
 t50:=Tryz.underlying108
 a50:=Tryz.isAgg108
 z50:=Tryz.sizeOf108
 v50:=Tryz.zeroValue108
 t53:=Tryz.underlying53
 a53:=Tryz.isAgg53
 z53:=Tryz.sizeOf53
 v53:=Tryz.zeroValue53
 t55:=Tryz.underlying266
 a55:=Tryz.isAgg266
 z55:=Tryz.sizeOf266
 v55:=Tryz.zeroValue266
 t66:=Tryz.underlying319
 a66:=Tryz.isAgg319
 z66:=Tryz.sizeOf319
 v66:=Tryz.zeroValue319
 t70:=Tryz.underlying323
 a70:=Tryz.isAgg323
 z70:=Tryz.sizeOf323
 v70:=Tryz.zeroValue323
 t76:=Tryz.underlying330
 a76:=Tryz.isAgg330
 z76:=Tryz.sizeOf330
 v76:=Tryz.zeroValue330
 t77:=Tryz.underlying331
 a77:=Tryz.isAgg331
 z77:=Tryz.sizeOf331
 v77:=Tryz.zeroValue331 }
def Tryz.laysSlF06_f167_ren:Go.Shelf.Ren:=⟨fun | 6=>167 | 15=>191 | 14=>204 | 28=>231 | 29=>232 | 20=>238 | 21=>239 | 22=>240 | 23=>241 | 24=>242 | 25=>243 | 26=>244 | 27=>245 | 46=>270 | 47=>262 | 48=>263 | 49=>271 | 50=>272 | 57=>276 | n=>n,fun | 22=>34 | 24=>9 | 25=>231 | 3=>3 | 39=>239 | 0=>0 | 53=>53 | 55=>266 | 4=>4 | 46=>286 | 45=>285 | 50=>108 | 5=>5 | 9=>9 | 66=>319 | 70=>323 | 76=>330 | 77=>331 | n=>n,fun | n=>n⟩
theorem Tryz.laysSlF06_f167:Go.Proofs.SlLaysF0.n6 Tryz.prog Tryz.laysSlF06_f167_ren:={
 mixed:=by kernel_rfl
 f6:=⟨Tryz.f167.name,by decide,Tryz.func167.trans (congrArg some (by kernel_rfl))⟩
 f14:=⟨Tryz.f204.name,by decide,Tryz.func204.trans (congrArg some (by kernel_rfl))⟩
 f15:=Tryz.func191.trans (congrArg some (by kernel_rfl))
 f20:=⟨Tryz.f238.name,by decide,Tryz.func238.trans (congrArg some (by kernel_rfl))⟩
 f21:=⟨Tryz.f239.name,by decide,Tryz.func239.trans (congrArg some (by kernel_rfl))⟩
 f22:=⟨Tryz.f240.name,by decide,Tryz.func240.trans (congrArg some (by kernel_rfl))⟩
 f23:=⟨Tryz.f241.name,by decide,Tryz.func241.trans (congrArg some (by kernel_rfl))⟩
 f24:=⟨Tryz.f242.name,by decide,Tryz.func242.trans (congrArg some (by kernel_rfl))⟩
 f25:=⟨Tryz.f243.name,by decide,Tryz.func243.trans (congrArg some (by kernel_rfl))⟩
 f26:=⟨Tryz.f244.name,by decide,Tryz.func244.trans (congrArg some (by kernel_rfl))⟩
 f27:=⟨Tryz.f245.name,by decide,Tryz.func245.trans (congrArg some (by kernel_rfl))⟩
 f28:=Tryz.func231.trans (congrArg some (by kernel_rfl))
 f29:=Tryz.func232.trans (congrArg some (by kernel_rfl))
 f46:=⟨Tryz.f270.name,by decide,Tryz.func270.trans (congrArg some (by kernel_rfl))⟩
 f47:=Tryz.func262.trans (congrArg some (by kernel_rfl))
 f48:=Tryz.func263.trans (congrArg some (by kernel_rfl))
 f49:=⟨Tryz.f271.name,by decide,Tryz.func271.trans (congrArg some (by kernel_rfl))⟩
 f50:=⟨Tryz.f272.name,by decide,Tryz.func272.trans (congrArg some (by kernel_rfl))⟩
 f57:=⟨Tryz.f276.name,by decide,Tryz.func276.trans (congrArg some (by kernel_rfl))⟩
 t0:=Tryz.underlying0
 a0:=Tryz.isAgg0
 z0:=Tryz.sizeOf0
 v0:=Tryz.zeroValue0
 t3:=Tryz.underlying3
 a3:=Tryz.isAgg3
 z3:=Tryz.sizeOf3
 v3:=Tryz.zeroValue3
 t4:=Tryz.underlying4
 a4:=Tryz.isAgg4
 z4:=Tryz.sizeOf4
 v4:=Tryz.zeroValue4
 t5:=Tryz.underlying5
 a5:=Tryz.isAgg5
 z5:=Tryz.sizeOf5
 v5:=Tryz.zeroValue5
 t9:=Tryz.underlying9
 a9:=Tryz.isAgg9
 z9:=Tryz.sizeOf9
 v9:=Tryz.zeroValue9
 t22:=Tryz.underlying34
 a22:=Tryz.isAgg34
 z22:=Tryz.sizeOf34
 v22:=Tryz.zeroValue34
 t25:=Tryz.underlying231
 a25:=Tryz.isAgg231
 z25:=Tryz.sizeOf231
 v25:=Tryz.zeroValue231
 t39:=Tryz.underlying239
 a39:=Tryz.isAgg239
 z39:=Tryz.sizeOf239
 v39:=Tryz.zeroValue239
 t45:=Tryz.underlying285
 a45:=Tryz.isAgg285
 z45:=Tryz.sizeOf285
 v45:=Tryz.zeroValue285
 t46:=Tryz.underlying286
 a46:=Tryz.isAgg286
 z46:=Tryz.sizeOf286
 v46:=Tryz.zeroValue286
 t50:=Tryz.underlying108
 a50:=Tryz.isAgg108
 z50:=Tryz.sizeOf108
 v50:=Tryz.zeroValue108
 t53:=Tryz.underlying53
 a53:=Tryz.isAgg53
 z53:=Tryz.sizeOf53
 v53:=Tryz.zeroValue53
 t55:=Tryz.underlying266
 a55:=Tryz.isAgg266
 z55:=Tryz.sizeOf266
 v55:=Tryz.zeroValue266
 t66:=Tryz.underlying319
 a66:=Tryz.isAgg319
 z66:=Tryz.sizeOf319
 v66:=Tryz.zeroValue319
 t70:=Tryz.underlying323
 a70:=Tryz.isAgg323
 z70:=Tryz.sizeOf323
 v70:=Tryz.zeroValue323
 t76:=Tryz.underlying330
 a76:=Tryz.isAgg330
 z76:=Tryz.sizeOf330
 v76:=Tryz.zeroValue330
 t77:=Tryz.underlying331
 a77:=Tryz.isAgg331
 z77:=Tryz.sizeOf331
 v77:=Tryz.zeroValue331 }
open Go.RowKit Go.Lib Go.Sort in
theorem Tryz.slices_SortFunc_none {α:Type} [Inhabited α] (p:Option Addr) (cap:Nat) (fv:Value) (w:World) :
 Calls Tryz.prog 167 #[.slice p 0 cap,fv] w fun e w'=>e=.returned (.tuple #[])∧w'=w:=AnyF.slices_SortFunc_none Tryz.laysSlF06_f167 p cap fv w
open Go.RowKit Go.Lib Go.Sort in
theorem Tryz.slices_SortFunc_total {α:Type} [Inhabited α] (enc:α→Value) (h1:OneCell enc) (cf:α→α→Int) (hO:SWO (ltOf cf)) (g:Nat) (cb:Array Value) (blk off cap:Nat) (d:Array α) (w:World) (eg:∀args w,(callFunc g args).run Tryz.prog w=.ok (.enter g args) w) (hcmp:CmpLays1 Tryz.prog g cb enc cf blk off d.size w) (hH:Holds enc w blk off d) (hblk:blk < w.heap.size) (hsz:d.size < 4611686018427387904) (hT:∀x y,(ltOf cf) x y=false→(ltOf cf) y x=false→x=y) :
 Calls Tryz.prog 167 #[.slice (some ⟨blk,off,none⟩) d.size cap,.func (.func g) #[] cb] w fun e w' =>
  e=.returned (.tuple #[])∧∃n os,w'=sortWorld enc w blk off n (d.toList.mergeSort fun x y=>!(ltOf cf) y x).toArray os:=Any.slices_SortFunc_total Tryz.laysSlF6_f167 enc h1 cf hO g cb blk off cap d w eg hcmp hH hblk hsz hT
end Go.Proofs
namespace Go.Proofs.YtahkcemdbfjilaaGreatDoor
open Go.RowKit Go.Maps Go.Lib Go.Sort
abbrev Sh:={x:By // x.length≤4000}
instance:Inhabited Sh:=⟨⟨[],by simp⟩⟩
def encSh (x:Sh):Value:=kS x.1
def cfSh (x y:Sh):Int:=cmpL x.1 y.1
theorem lt_sh (x y:Sh):ltOf cfSh x y=true↔cmpL x.1 y.1 = -1:=by
 unfold ltOf cfSh;have:=cmpL_vals x.1 y.1;simp only [decide_eq_true_eq];omega
theorem lt_sh_no (x y:Sh):ltOf cfSh x y=false↔cmpL x.1 y.1≠-1:=by
 rw [←Bool.not_eq_true,lt_sh]
theorem cmpL_le {a b:By} (h:cmpL b a≠-1):cmpL a b = -1∨a=b:=by
 rcases cmpL_vals a b with k | k | k
 · exact .inl k
 · exact .inr ((cmpL_zero a b).1 k)
 · exact absurd (by rw [cmpL_neg a b,k]) h
theorem swo_sh:SWO (ltOf cfSh) where
 irrefl x:=by rw [lt_sh_no,cmpL_self];omega
 trans x y z h1 h2:=by rw [lt_sh] at *;exact cmpL_trans _ _ _ h1 h2
 ntrans x y z h1 h2:=by
  rw [lt_sh_no] at *;intro h3;rcases cmpL_le h1 with k | k
  · exact h2 (cmpL_trans _ _ _ k h3)
  · rw [←k] at h3;exact h2 h3
theorem one_sh:OneCell encSh:=fun _=>rfl
theorem shift_sh {xs:List By} (h:∀x∈xs,x.length≤4000):∃zs:List Sh,zs.map (·.1)=xs:=by
 induction xs with
 | nil=>exact ⟨[],rfl⟩
 | cons x xs ih =>
  obtain ⟨zs,hz⟩:=ih fun y hy=>h y (List.mem_cons_of_mem _ hy)
  exact ⟨⟨x,h x List.mem_cons_self⟩ :: zs,by rw [List.map_cons,hz]⟩
def keyT (xs:List By):Tr:=xs.map fun x=>(x,n0)
theorem look_key (xs:List By) (p:By):look (keyT xs) p=if p∈xs then some n0 else none:=by
 induction xs with
 | nil=>rfl
 | cons x xs ih =>
  show (if x=p then some n0 else look (keyT xs) p)=_
  rw [ih];by_cases h:x=p
  · simp [h]
  · have h':¬p=x:=fun e=>h e.symm
    simp [h,h']
theorem keys_same {xs ys:List By} (hx:xs.Pairwise fun a b=>cmpL a b = -1) (hy:ys.Pairwise fun a b=>cmpL a b = -1) (h:∀p,p∈xs↔p∈ys):xs=ys:=by
 have s1:Srt (keyT xs):=by unfold Srt keyT;rw [List.pairwise_map];exact hx
 have s2:Srt (keyT ys):=by unfold Srt keyT;rw [List.pairwise_map];exact hy
 have:=tree_ext s1 s2 fun p=>by rw [look_key,look_key];simp only [h p]
 have e:=congrArg (List.map (·.1)) this
 simpa [keyT,List.map_map,Function.comp_def] using e
def pathsL (L:Tr):List By:=L.map (·.1)
theorem paths_srt {L:Tr} (h:Srt L):(pathsL L).Pairwise fun a b=>cmpL a b = -1:=by unfold pathsL;rw [List.pairwise_map];exact h
theorem sorted_paths {L:Tr} (h:Srt L) (zs:List Sh) (hp:(zs.map (·.1)).Perm (pathsL L)):(zs.mergeSort fun x y=>!(ltOf cfSh) y x).map (·.1)=pathsL L:=by
 have hperm:=List.mergeSort_perm zs fun x y=>!(ltOf cfSh) y x
 have hpw:(zs.mergeSort fun x y=>!(ltOf cfSh) y x).Pairwise fun x y=>(!(ltOf cfSh) y x)=true:=by
  apply List.pairwise_mergeSort
  · intro a b c h1 h2
    simp only [Bool.not_eq_true'] at *;exact swo_sh.ntrans _ _ _ h2 h1
  · intro a b
    simp only [Bool.or_eq_true,Bool.not_eq_true'];rcases cmpL_vals b.1 a.1 with k | k | k
    · exact .inr ((lt_sh_no _ _).2 (by rw [cmpL_neg,k];omega))
    · exact .inl ((lt_sh_no _ _).2 (by rw [k];omega))
    · exact .inl ((lt_sh_no _ _).2 (by rw [k];omega))
 have hnd:((zs.mergeSort fun x y=>!(ltOf cfSh) y x).map (·.1)).Nodup:=by
  refine ((hperm.map _).trans hp).nodup_iff.2 ?_;exact (paths_srt h).imp fun k=>cmpL_ne k
 refine keys_same ?_ (paths_srt h) fun p=>((hperm.map _).trans hp).mem_iff
 have h2:((zs.mergeSort fun x y=>!(ltOf cfSh) y x).map (·.1)).Pairwise fun a b=>cmpL b a≠-1:=by
  rw [List.pairwise_map];exact hpw.imp fun {a b} k=>(lt_sh_no b a).1 (by simpa using k)
 exact (h2.and hnd).imp fun {a b} k=>(cmpL_le k.1).resolve_right k.2
structure Names (w:World) (A:Option Addr) (g:Nat) (xs:List By):Prop where
 ad:0 < xs.length→A=some ⟨g,0,none⟩
 cell:∀i (h:i < xs.length),w.cell? ⟨g,i,none⟩=some (kS xs[i])
 low:0 < xs.length→g < w.heap.size
def NamesP (w:World) (xs:List By) (e:Ending) (w':World):Prop:=∃A c g,e=.returned (.slice A (xs.length:Nat) c)∧Names w' A g xs∧Below w.heap.size w w'
theorem names_of_row {w w0:World} {e:TypeId} {v:Value} {xs:List By} (h:w.ownsRow w0.heap.size e 1 v xs.length (xs.map kS)):∃A c g,v=.slice A (xs.length:Nat) c∧Names w A g xs:=by
 rcases h.2 with ⟨k1,k2⟩ | ⟨g,c,cur,k1,k2,k3,k4,k5,k6,k7⟩
 · have:xs=[]:=by simpa using k2
   subst this;exact ⟨none,0,0,k1,fun k=>absurd k (by simp),fun i hi=>absurd hi (by simp),fun k=>absurd k (by simp)⟩
 · refine ⟨_,c,g,k1,fun _=>rfl,fun i hi=>?_,fun _=>Has.inside k3⟩
   have e1:=congrArg (fun l=>l[i]?) k7
   simp only [List.getElem?_take,Nat.mul_one,if_pos hi,Array.getElem?_toList,List.getElem?_map,List.getElem?_eq_getElem hi,Option.map_some] at e1;exact (Has.at_ k3 i).trans e1
theorem below_sorted {α:Type} [Inhabited α] {enc:α→Value} {B:Nat} {w0 w:World} {g q:Nat} {d:Array α} {os:Array Obj} (h:Below B w0 w) (hg:B≤g) (hB:B≤w.heap.size):Below B w0 (sortWorld enc w g 0 q d os):=by
 have:=below_putRow (enc:=enc) (q:=q) (d:=d) h hg;refine this.trans ⟨rfl,rfl,rfl,?_,fun k hk=>?_⟩
 · show _≤((putRow enc (Sort.ahead w q) g 0 d).heap++os).size
   simp
 · show ((putRow enc (Sort.ahead w q) g 0 d).heap++os)[k]? = _
   have:=this.size;rw [Array.getElem?_append_left];have e:(putRow enc (Sort.ahead w q) g 0 d).heap.size=w.heap.size:=by simp [putRow,mapBlock,Sort.ahead]
   omega
theorem sortPaths_any {L:Tr} (hs:Srt L) {w0 w:World} {v:Value} {xs:List By} (hb:Below w0.heap.size w0 w) (h:w.ownsRow w0.heap.size 9 1 v xs.length (xs.map kS)) (hp:xs.Perm (pathsL L)) (hl:∀x∈xs,x.length≤4000) (hn:xs.length≤100000) :
 Calls Tryz.prog 167 #[v,.func (.func 168) #[] #[]] w fun e w'=>e=.returned (.tuple #[])∧w'.ownsRow w0.heap.size 9 1 v (pathsL L).length ((pathsL L).map kS)∧Below w0.heap.size w0 w':=by
 obtain ⟨zs,hz⟩:=shift_sh hl;have hlen:xs.length=(pathsL L).length:=hp.length_eq;have hzx:xs.map kS=zs.map encSh:=by rw [←hz,List.map_map];rfl
 by_cases hv:v=.slice none 0 0
 · subst hv
   have h0:xs.length=0:=by
    rcases h.2 with ⟨_,k2⟩ | ⟨g,c,cur,k1,_⟩
    · have:xs=[]:=by simpa using k2
      rw [this];rfl
    · cases k1
   have e0:xs=[]:=List.length_eq_zero_iff.1 h0;have e1:pathsL L=[]:=List.length_eq_zero_iff.1 (by omega)
   refine (Tryz.slices_SortFunc_none (α:=Sh) none 0 _ w).mono ?_;rintro e w' ⟨rfl,rfl⟩;rw [e1];rw [e0] at h;exact ⟨rfl,h,hb⟩
 · rw [hzx] at h
   obtain ⟨g,cap,rfl,g1,g2,g3,g4,g5,hH⟩:=holds_of_ownsRow h hv;have hlz:zs.toArray.size=xs.length:=by simp [g5]
   have:=Tryz.slices_SortFunc_total encSh one_sh cfSh swo_sh 168 #[] g 0 cap zs.toArray w (enters_of Tryz.func168 (by kernel_rfl) rfl) (fun m os dk hdk x y=>by
    have hx:=x.2;have hy:=y.2;refine (cmp_any (ba x.1) (ba y.1) _ (by rw [ba_size];omega) (by rw [ba_size];omega)).mono ?_
    rintro e w' ⟨rfl,n,rfl⟩;exact ⟨rfl,n,#[],(grow_empty _).symm⟩) hH g2 (by rw [hlz];omega) (fun x y h1 h2=>by
     rw [lt_sh_no] at h1 h2;rcases cmpL_le h2 with k | k
     · exact absurd k h1
     · exact Subtype.ext k)
   rw [hlz] at this;refine this.mono ?_;rintro e w' ⟨rfl,n,os,rfl⟩;refine ⟨rfl,?_,below_sorted hb g1 hb.size⟩;have hsp:=sorted_paths hs zs (by rw [hz];exact hp)
   have hml:(zs.mergeSort fun x y=>!(ltOf cfSh) y x).length=xs.length:=by rw [List.length_mergeSort,g5]
   have hrow:=ownsRow_putRow (enc:=encSh) (q:=n) (k:=xs.length) (ys:=zs.mergeSort fun x y=>!(ltOf cfSh) y x) h hml (Nat.le_refl _)
   rw [List.take_of_length_le (Nat.le_of_eq hml),show List.map encSh (zs.mergeSort fun x y=>!(ltOf cfSh) y x)=(pathsL L).map kS by rw [←hsp,List.map_map];rfl,hlen] at hrow
   rw [hlen];refine row_of hrow fun g' hg'=>?_
   have eg:g=g':=by injection hg'
   subst eg;show ((putRow encSh (Sort.ahead w n) g 0 _).heap++os)[g]? = _
   rw [Array.getElem?_append_left];have e:∀d:Array Sh,(putRow encSh (Sort.ahead w n) g 0 d).heap.size=w.heap.size:=fun d=>by simp [putRow,mapBlock,Sort.ahead]
   rw [e];exact g2
theorem inner_nil (L:Tr):innerL L []=pathsL L:=by
 have:kindP L []=2:=rfl;rw [innerL,if_pos this,show beginL []=[] from rfl]
 unfold restsL pathsL;induction L with
 | nil=>rfl
 | cons x L ih=>simp
section
variable {own:Nat→Prop} {w:World} {p:Nat} {M:Mo}
set_option maxHeartbeats 4000000 in
theorem dPaths_any (h:Dsk own w p M):Calls Tryz.prog 114 #[.pointer (some ⟨p,0,none⟩)] w fun e w'=>NamesP w (pathsL M.now) e w':=by
 obtain ⟨m1,m2,sv,vs,h⟩:=h;have C1:=hid (dmade_any (m1:=m1) (h.has.at_ 0));have hW:=h.good.w1;have hmay:∀q,(look M.now q).isSome→q.length≤4000:=fun q hq=>by have:=(may_parts (hW.may q hq)).1;omega
 have C2:Hid (Calls Tryz.prog 154 #[.pointer (some ⟨p,0,none⟩),kS []] w fun e w'=>InPost w (pathsL M.now) e w'):=by
  have:=twithin_any h.tr1 hmay [] (by simp)
  rw [inner_nil] at this;exact this
 have HS:=hid hW.srt;have HN:Hid ((pathsL M.now).length≤100000):=by
  show _≤_
  unfold pathsL;rw [List.length_map];exact h.tr1.len
 have HL:Hid (∀x∈pathsL M.now,x.length≤4000):=fun x hx=>by
  unfold pathsL at hx;obtain ⟨y,hy,rfl⟩:=List.mem_map.1 hx;obtain ⟨q,n⟩:=y;exact hmay q (by rw [mem_look hW.srt hy];rfl)
 clear h hW hmay;go_enter Tryz.func114,Tryz.ntmps114
 go_wp2_with fail
 refine C1.out.mono ?_;rintro e1 w1 ⟨rfl,rfl⟩;go_wp2_with fail
 refine C2.out.mono ?_;rintro e2 w2 ⟨v,xs,rfl,hp,hrow,hb⟩;have HP:=hid hp;have HR:=hid hrow;have HB:=hid hb;clear hp hrow hb;go_wp2_with fail
 refine (sortPaths_any HS.out HB.out HR.out HP.out (fun x hx=>HL.out x (HP.out.mem_iff.1 hx)) (by rw [HP.out.length_eq];exact HN.out)).mono ?_;rintro e3 w3 ⟨rfl,hrow3,hb3⟩
 have HR3:=hid hrow3;have HB3:=hid hb3;clear hrow3 hb3;go_wp2;go_ret;obtain ⟨A,c,g,rfl,hn⟩:=names_of_row HR3.out;exact ⟨A,c,g,rfl,hn,HB3.out⟩
end
end Go.Proofs.YtahkcemdbfjilaaGreatDoor
