/- Several texts in one. Conditions: those said at each. -/
import Derived.Test.YtahkcemdbfjilaaGreatDoorIt00
import Derived.Test.YtahkcemdbfjilaaGreatDoorIt42
set_option linter.unusedSimpArgs false
set_option linter.unusedVariables false
set_option maxRecDepth 100000
namespace Go.Proofs.YtahkcemdbfjilaaGreatDoor
open Go.RowKit Go.Maps
theorem Dgs.byte {B:Nat} {w:World} {A:Option Addr} {n c:Nat} {hs:List (List UInt8)} (h:Dgs B w (.slice A n c) hs) (h0:0 < hs.length):∃g,A=some ⟨g,0,none⟩∧g < w.heap.size∧∀k (hk:k < hs.length) j,j < 32→w.cell? ⟨g,k*32+j,none⟩=some (V8 (at8 (hs[k]) j)):=by
 rcases h.own.2 with ⟨_,h2⟩ | ⟨g,c,cur,h1,hB,h3,h4⟩
 · omega
 · injection h1 with h1 _ _
   refine ⟨g,h1,(World.ownsRow.lt h.own g (by rw [h1];rfl)).2,fun k hk j hj=>?_⟩
   have hlen:(hs[k]).length=32:=h.len _ (List.getElem_mem hk);have:=World.ownsRow.cells (g:=g) h.own (by rw [h1];rfl) (k*32+j) (V8 (at8 (hs[k]) j)) (by
    rw [flat_at hs h.len k hk j hj,List.getElem?_map,List.getElem?_eq_getElem (by omega)]
    simp [at8,List.getElem?_eq_getElem (show j < (hs[k]).length by omega)])
   rwa [add_at,Nat.zero_add] at this
set_option maxHeartbeats 4000000 in
theorem rhashes_any {B B':Nat} {w:World} {A A':Option Addr} {n c c':Nat} {hs:List (List UInt8)} (h:Dgs B w (.slice A n c) hs) (h':Dgs B' w (.slice A' n c') hs) (hn:hs.length=n) (hb:n≤100000) :
 Calls Tryz.prog 203 #[.slice A n c,.slice A' n c'] w fun e w'=>e=.returned (.int .i64 0)∧Below w.heap.size w w':=by
 have H:=hid h;have H':=hid h';have HN:=hid hn;have hbi:(n:Int)≤100000:=by omega
 clear h h' hn;go_enter Tryz.func203,Tryz.ntmps203
 go_wp2;go_loopw [5] (fun v5 wr=>∃k:Nat,v5=.int .i64 (k:Int)∧k≤n∧Hid (Below w.heap.size w wr)) (fun v5 _=>n - (intOf v5).toNat)
 case atStart=>exact ⟨0,rfl,by omega,Below.refl _ _⟩
 case round =>
  obtain ⟨k,rfl,hk,J⟩:=hrel;by_cases hlt:k < n
  · have hkl:k < hs.length:=by rw [HN.out];exact hlt
    obtain ⟨g,rfl,hg,hc⟩:=H.out.byte (by omega)
    obtain ⟨g',rfl,hg',hc'⟩:=H'.out.byte (by omega)
    have ilt:(k:Int) < (n:Int):=by omega
    have i0:(0:Int)≤(k:Int):=by omega
    have w1:IntKind.i64.wrap ((k:Int)+1)=(k:Int)+1:=i64in _ (by omega) (by omega)
    have HC:Hid (∀W,Below w.heap.size w W→∀j,j < 32→W.cell? ⟨g,k*32+j,none⟩=some (V8 (at8 (hs[k]) j))):=fun W hW j hj=>(hW.cell (p:=⟨g,k*32+j,none⟩) hg).trans (hc k hkl j hj)
    have HC':Hid (∀W,Below w.heap.size w W→∀j,j < 32→W.cell? ⟨g',k*32+j,none⟩=some (V8 (at8 (hs[k]) j))):=fun W hW j hj=>(hW.cell (p:=⟨g',k*32+j,none⟩) hg').trans (hc' k hkl j hj)
    generalize hs[k]=d at HC HC';clear hc hc' hg hg' hkl;obtain ⟨wo,hwo⟩:∃wo,wo=wr:=⟨_,rfl⟩;subst hwo;go_wp2;go_loopw [6] (fun v6 ws=>∃j:Nat,v6=.int .i64 (j:Int)∧j≤32∧Hid (Below w.heap.size w ws)) (fun v6 _=>32 - (intOf v6).toNat)
    case atStart=>exact ⟨0,rfl,by omega,J.out⟩
    case round =>
     obtain ⟨j,rfl,hj,J2⟩:=hrel;by_cases hlj:j < 32
     · have jlt:(j:Int) < 32:=by omega
       have j0:(0:Int)≤(j:Int):=by omega
       have w2:IntKind.i64.wrap ((j:Int)+1)=(j:Int)+1:=i64in _ (by omega) (by omega)
       obtain ⟨wf,hwf⟩:∃V,wr.drew=V:=⟨_,rfl⟩;have bf:Below wr.heap.size wr wf:=hwf▸(Below.refl _ _).drew;have JF:Hid (Below w.heap.size w wf):=J2.out.trans (bf.mono J2.out.size);have k1:wf.cell? ⟨g,k*32+j,none⟩=some (.int .u8 (b8 (at8 d j))):=HC.out wf JF.out j hlj;have k2:wf.cell? ⟨g',k*32+j,none⟩=some (.int .u8 (b8 (at8 d j))):=HC'.out wf JF.out j hlj;generalize b8 (at8 d j)=b at k1 k2;clear bf;go_wp2;refine wp_region_noPanic ?_;refine wp_region_held_drew (S:=fun V=>V=wf) (by kernel_rfl) (hwf) (fun hS=>?_)
       clear hS;rw [hwf];have hS7:wf=wf:=rfl;refine inI 0 ?_
       iterate 5
        refine stI (v:=?_) (by simp only [lkA,lkB,lkC];rfl) (by kernel_rfl) (fun _ _ _ h=>h) (by rfl) (by assumption) ?_ ?_
        rotate_left 1
        · intro w hSw
          go_simp
          with_reducible rfl
        simp only [Act.put,siA,siB,siC,Nat.reduceAdd]
       refine outI ?_;refine tkH 5 (v:=?_) (by simp only [lkA,lkB,lkC];rfl) (by kernel_rfl) (fun _ _ _ h=>h) (by rfl) (by assumption) ?_ ?_
       rotate_left 1
       · intro w hSw
         subst hSw;have c1:=k1;go_simp
         with_reducible rfl
       simp only [Act.put,siA,siB,siC];refine inI 6 ?_
       iterate 5
        refine stI (v:=?_) (by simp only [lkA,lkB,lkC];rfl) (by kernel_rfl) (fun _ _ _ h=>h) (by rfl) (by assumption) ?_ ?_
        rotate_left 1
        · intro w hSw
          go_simp
          with_reducible rfl
        simp only [Act.put,siA,siB,siC,Nat.reduceAdd]
       refine outI ?_;refine tkH 11 (v:=?_) (by simp only [lkA,lkB,lkC];rfl) (by kernel_rfl) (fun _ _ _ h=>h) (by rfl) (by assumption) ?_ ?_
       rotate_left 1
       · intro w hSw
         subst hSw;have c1:=k2;go_simp
         with_reducible rfl
       simp only [Act.put,siA,siB,siC];refine tkH 12 (v:=?_) (by simp only [lkA,lkB,lkC];rfl) (by kernel_rfl) (fun _ _ _ h=>h) (by rfl) (by assumption) ?_ ?_
       rotate_left 1
       · intro w hSw
         go_simp
         with_reducible rfl
       simp only [Act.put,siA,siB,siC];clear hS7;refine wpAnyH_done (by kernel_rfl) ?_ _
       refine NoPanic.normal ?_;clear k1 k2;go_wp2;go_roundw
       case rel=>exact ⟨j+1,by go_num,by omega,JF.out⟩
       case measure=>simp [intOf];omega
     · have hj32:¬(j:Int) < 32:=by omega
       go_wp2;go_roundw
       case rel=>exact ⟨k+1,by go_num,by omega,J2.out⟩
       case measure=>simp [intOf];omega
  · have kge:¬(k:Int) < (n:Int):=by omega
    go_wp2;go_ret;exact ⟨rfl,J.out⟩
theorem rblocks6_any {B B':Nat} {w:World} {A A':Option Addr} {n c c':Nat} {hs:List (List UInt8)} (h:Dgs B w (.slice A n c) hs) (h':Dgs B' w (.slice A' n c') hs) (hn:hs.length=n) (hb:n≤100000) :
 Calls Tryz.prog 165 #[.slice A n c,.slice A' n c'] w fun e w'=>e=.returned (.bool true)∧Below w.heap.size w w':=by
 have C:=hid (rhashes_any h h' hn hb);clear h h' hn;go_enter Tryz.func165,Tryz.ntmps165
 go_wp2_with fail
 refine C.out.mono ?_;rintro e1 w1 ⟨rfl,hb1⟩;go_wp2;go_ret;exact ⟨rfl,hb1⟩
end Go.Proofs.YtahkcemdbfjilaaGreatDoor
namespace Go.Proofs.YtahkcemdbfjilaaGreatDoor
open Go.RowKit Go.Maps
def Z16:Array Value:=#[.int .u32 0,.int .u32 0,.int .u32 0,.int .u32 0,.int .u32 0,.int .u32 0,.int .u32 0,.int .u32 0,.int .u32 0,.int .u32 0,.int .u32 0,.int .u32 0,.int .u32 0,.int .u32 0,.int .u32 0,.int .u32 0]
theorem eqGV:Tryz.prog.eqGuardType Tryz.prog.depth 55=false:=by kernel_rfl
theorem run_vec0 (w:World):(binOp .eql 55 (.agg Z16) (.agg Z16)).run Tryz.prog w=.ok (.bool true) w:=by
 rw [run_eql_struct];kernel_rfl
theorem wpList_eql_v0 {ops:Array Oper} {o:Oper} {a:Act} {Q:Exit→Act→World→Prop} {w:World} {rest:List Oper} (hw:Region.wanted o (yielded ops a.tmps)=true)
 (x y:Operand) (ho:o.op=.binOp .eql 55 x y 55) (hx:a.eval x=.agg Z16) (hy:a.eval y=.agg Z16) (h:wpList Tryz.prog ops Q rest (a.put o.dst (.bool true)) w):wpList Tryz.prog ops Q (o :: rest) a w :=
 wpList_wanted hw fun _ hK=>by
  unfold Oper.wp execOp;simp only [ho,hx,hy,Sem.run_bind,run_eqGuard_agg w .eql 55 x y _ _ eqGV,run_vec0 w,Result.andThen_ok];exact hK _ _ h
structure Twin (w:World) (cs cs':Array Value):Prop where
 eq:∃(p:By) (k sz tm bs:Int) (tg:By) (A A':Option Addr) (n c c':Nat) (hs:List (List UInt8)) (B B':Nat),cs=recC p k sz tm bs (.slice A n c) tg∧cs'=recC p k sz tm bs (.slice A' n c') tg ∧
  Dgs B w (.slice A n c) hs∧Dgs B' w (.slice A' n c') hs∧hs.length=n∧n≤100000
theorem Twin.on {w w':World} {cs cs':Array Value} (h:Twin w cs cs') (hb:Below w.heap.size w w'):Twin w' cs cs':=by
 obtain ⟨p,k,sz,tm,bs,tg,A,A',n,c,c',hs,B,B',h1,h2,h3,h4,h5⟩:=h.eq;exact ⟨⟨p,k,sz,tm,bs,tg,A,A',n,c,c',hs,B,B',h1,h2,h3.kq (Kq.of_below hb),h4.kq (Kq.of_below hb),h5⟩⟩
theorem box_two (w:World) (cs cs':Array Value):∃W,(w.alloc (.cells cs 58)).alloc (.cells cs' 58)=W∧Below w.heap.size w W∧Has W w.heap.size 58 cs∧Has W (w.heap.size+1) 58 cs' :=
 ⟨_,rfl,((Below.refl _ _).alloc (Nat.le_refl _) _).alloc (by simp) _,(Has.fresh w _ _).more _,Has.fresh' _ _ _ (by simp)⟩
set_option maxHeartbeats 4000000 in
theorem rcontent_any {w:World} {cs cs':Array Value} (h:Twin w cs cs'):Calls Tryz.prog 111 #[.agg cs,.agg cs'] w fun e w'=>e=.returned (.bool true)∧Below w.heap.size w w':=by
 obtain ⟨p,k,sz,tm,bs,tg,A,A',n,c,c',hs,B,B',rfl,rfl,h3,h4,h5,h6⟩:=h.eq;obtain ⟨W,hW,hb,f1,f2⟩:=box_two w (recC p k sz tm bs (.slice A n c) tg) (recC p k sz tm bs (.slice A' n c') tg);have C:=hid (rblocks6_any (h3.kq (Kq.of_below hb)) (h4.kq (Kq.of_below hb)) h5 h6);have x2:W.cell? ⟨w.heap.size,2,none⟩=some (.bool false):=f1.at_ 2;have y2:W.cell? ⟨w.heap.size+1,2,none⟩=some (.bool false):=f2.at_ 2;have x1:W.cell? ⟨w.heap.size,1,none⟩=some (.int .i64 k):=f1.at_ 1;have y1:W.cell? ⟨w.heap.size+1,1,none⟩=some (.int .i64 k):=f2.at_ 1;have x3:W.cell? ⟨w.heap.size,3,none⟩=some (.int .i64 sz):=f1.at_ 3;have y3:W.cell? ⟨w.heap.size+1,3,none⟩=some (.int .i64 sz):=f2.at_ 3;have x24:W.cell? ⟨w.heap.size,24,none⟩=some (kS tg):=f1.at_ 24;have y24:W.cell? ⟨w.heap.size+1,24,none⟩=some (kS tg):=f2.at_ 24;have x23:W.cell? ⟨w.heap.size,23,none⟩=some (.slice A n c):=f1.at_ 23;have y23:W.cell? ⟨w.heap.size+1,23,none⟩=some (.slice A' n c'):=f2.at_ 23;have HB:=hid hb;clear h h3 h4 h5 h6 hb f1 f2;go_enter Tryz.func111,Tryz.ntmps111
 go_wp2_with fail
 try rw [hW]
 refine C.out.mono ?_;rintro e1 w1 ⟨rfl,hb1⟩;go_wp2;go_ret;exact ⟨rfl,HB.out.trans (hb1.mono HB.out.size)⟩
theorem iVec16:(Tryz.prog.info? 55).map (·.size)=some 16:=by kernel_rfl
theorem load_v0 {w:World} {g:Nat} {p:By} {k sz tm bs:Int} {bv:Value} {tg:By} (h:Has w g 58 (recC p k sz tm bs bv tg)):(loadVar 55 ⟨g,6,none⟩).run Tryz.prog w=.ok (.agg Z16) w:=by
 refine run_loadVar_mid (P:=Tryz.prog) w g 6 55 Z16.toList _ (fun j u hj=>?_) Tryz.underlying55 rfl (by show _=some 16;exact iVec16)
 have hj2:j < 16:=(List.getElem?_eq_some_iff.1 hj).1;rw [h.at_ (6+j)];have:∀j,j < 16→(recC p k sz tm bs bv tg)[6+j]? = Z16.toList[j]?:=by
  intro j hj;match j,hj with
  | 0,_=>rfl
  | 1,_=>rfl
  | 2,_=>rfl
  | 3,_=>rfl
  | 4,_=>rfl
  | 5,_=>rfl
  | 6,_=>rfl
  | 7,_=>rfl
  | 8,_=>rfl
  | 9,_=>rfl
  | 10,_=>rfl
  | 11,_=>rfl
  | 12,_=>rfl
  | 13,_=>rfl
  | 14,_=>rfl
  | 15,_=>rfl
  | j+16,hj=>omega
 rw [this j hj2];exact hj
set_option maxHeartbeats 4000000 in
theorem rsame6_any {w:World} {cs cs':Array Value} (h:Twin w cs cs'):Calls Tryz.prog 64 #[.agg cs,.agg cs'] w fun e w'=>e=.returned (.bool true)∧Below w.heap.size w w':=by
 obtain ⟨W,hW,hb,f1,f2⟩:=box_two w cs cs';have C:=hid (rcontent_any (h.on hb));obtain ⟨p,k,sz,tm,bs,tg,A,A',n,c,c',hs,B,B',e1,e2,h3,h4,h5,h6⟩:=h.eq;have F1:Hid (Has W w.heap.size 58 cs):=f1;have F2:Hid (Has W (w.heap.size+1) 58 cs'):=f2;have LV1:Hid ((loadVar 55 ⟨w.heap.size,6,none⟩).run Tryz.prog W=.ok (.agg Z16) W):=load_v0 (e1▸f1);have LV2:Hid ((loadVar 55 ⟨w.heap.size+1,6,none⟩).run Tryz.prog W=.ok (.agg Z16) W):=load_v0 (e2▸f2);have z1:cs.size=27:=by rw [e1];rfl
 have z2:cs'.size=27:=by rw [e2];rfl
 have LA:Hid ((loadVar 58 ⟨w.heap.size,0,none⟩).run Tryz.prog W=.ok (.agg cs) W):=load_rec f1 z1;have LB:Hid ((loadVar 58 ⟨w.heap.size+1,0,none⟩).run Tryz.prog W=.ok (.agg cs') W):=load_rec f2 z2;have x0:W.cell? ⟨w.heap.size,0,none⟩=some (kS p):=by rw [e1] at f1;exact f1.at_ 0
 have y0:W.cell? ⟨w.heap.size+1,0,none⟩=some (kS p):=by rw [e2] at f2;exact f2.at_ 0
 have x4:W.cell? ⟨w.heap.size,4,none⟩=some (.int .i64 tm):=by rw [e1] at f1;exact f1.at_ 4
 have y4:W.cell? ⟨w.heap.size+1,4,none⟩=some (.int .i64 tm):=by rw [e2] at f2;exact f2.at_ 4
 have x5:W.cell? ⟨w.heap.size,5,none⟩=some (.int .i64 0):=by rw [e1] at f1;exact f1.at_ 5
 have y5:W.cell? ⟨w.heap.size+1,5,none⟩=some (.int .i64 0):=by rw [e2] at f2;exact f2.at_ 5
 have x22:W.cell? ⟨w.heap.size,22,none⟩=some (.int .i64 bs):=by rw [e1] at f1;exact f1.at_ 22
 have y22:W.cell? ⟨w.heap.size+1,22,none⟩=some (.int .i64 bs):=by rw [e2] at f2;exact f2.at_ 22
 have x26:W.cell? ⟨w.heap.size,26,none⟩=some (.int .i64 0):=by rw [e1] at f1;exact f1.at_ 26
 have y26:W.cell? ⟨w.heap.size+1,26,none⟩=some (.int .i64 0):=by rw [e2] at f2;exact f2.at_ 26
 have HB:=hid hb;clear h h3 h4 h5 h6 hb f1 f2 e1 e2 z1 z2;go_enter Tryz.func64,Tryz.ntmps64
 go_wp2_with (first
  | (refine wpList_load_g (by rfl) 55 (.tmp 25) rfl w.heap.size 6 rfl Z16 LV1.out ?_)
  | (refine wpList_load_g (by rfl) 55 (.tmp 27) rfl (w.heap.size+1) 6 rfl Z16 LV2.out ?_)
  | (refine wpList_eql_v0 (by rfl) (.tmp 26) (.tmp 28) rfl rfl rfl ?_)
  | (refine wpList_load_g (by rfl) 58 (.tmp 2) rfl w.heap.size 0 rfl cs LA.out ?_)
  | (refine wpList_load_g (by rfl) 58 (.tmp 3) rfl (w.heap.size+1) 0 rfl cs' LB.out ?_))
 try rw [hW]
 refine C.out.mono ?_;rintro e1 w1 ⟨rfl,hb1⟩;go_wp2;go_ret;exact ⟨rfl,HB.out.trans (hb1.mono HB.out.size)⟩
set_option maxHeartbeats 4000000 in
theorem rwhole6_any {w:World} {cs cs':Array Value} (h:Twin w cs cs'):Calls Tryz.prog 22 #[.agg cs,.agg cs'] w fun e w'=>e=.returned (.bool true)∧Below w.heap.size w w':=by
 obtain ⟨W,hW,hb,f1,f2⟩:=box_two w cs cs';have C:=hid (rsame6_any (h.on hb));obtain ⟨p,k,sz,tm,bs,tg,A,A',n,c,c',hs,B,B',e1,e2,h3,h4,h5,h6⟩:=h.eq;have z1:cs.size=27:=by rw [e1];rfl
 have z2:cs'.size=27:=by rw [e2];rfl
 have LA:Hid ((loadVar 58 ⟨w.heap.size,0,none⟩).run Tryz.prog W=.ok (.agg cs) W):=load_rec f1 z1;have LB:Hid ((loadVar 58 ⟨w.heap.size+1,0,none⟩).run Tryz.prog W=.ok (.agg cs') W):=load_rec f2 z2;have x25:W.cell? ⟨w.heap.size,25,none⟩=some (.int .i64 0):=by rw [e1] at f1;exact f1.at_ 25
 have y25:W.cell? ⟨w.heap.size+1,25,none⟩=some (.int .i64 0):=by rw [e2] at f2;exact f2.at_ 25
 have HB:=hid hb;clear h h3 h4 h5 h6 hb f1 f2 e1 e2 z1 z2;go_enter Tryz.func22,Tryz.ntmps22
 go_wp2_with (first
  | (refine wpList_load_g (by rfl) 58 (.tmp 2) rfl w.heap.size 0 rfl cs LA.out ?_)
  | (refine wpList_load_g (by rfl) 58 (.tmp 3) rfl (w.heap.size+1) 0 rfl cs' LB.out ?_))
 try rw [hW]
 refine C.out.mono ?_;rintro e1 w1 ⟨rfl,hb1⟩;go_wp2;go_ret;exact ⟨rfl,HB.out.trans (hb1.mono HB.out.size)⟩
end Go.Proofs.YtahkcemdbfjilaaGreatDoor
