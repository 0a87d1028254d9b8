/- Several texts in one. Conditions: those said at each. -/
import Derived.Test.YtahkcemdbfjilaaGreatDoorIt00
import Derived.Shelf.Abstract
import Derived.Test.YtahkcemdbfjilaaGreatDoorIt18
set_option linter.unusedSimpArgs false
set_option linter.unusedVariables false
set_option maxRecDepth 100000
namespace Go.Proofs.YtahkcemdbfjilaaGreatDoor.Glob
open Go.RowKit
theorem yields_load {ops:Array Oper} {S:World→Prop} {o:Oper} {a:Act} (hw:Region.wanted o (yielded ops a.tmps)=true) (ty:TypeId) (x:Operand) (ho:o.op=.load ty x) (g off:Nat) (hx:a.eval x=.pointer (some ⟨g,off,none⟩)) (cs:Array Value)
 (hS:∀w,S w→(loadVar ty ⟨g,off,none⟩).run Tryz.prog w=.ok (.agg cs) w):YieldsIf Tryz.prog ops S o (.agg cs) a :=
 .inl ⟨hw,fun w hw'=>by
  unfold execOp;simp only [ho,hx,Instr.loadAt,Instr.sureAddr,Sem.run_bind,Sem.run_pure,Result.andThen_ok,hS w hw']⟩
theorem xor32 (c:UInt8):Go.bits .xor .u8 (b8 c) 32=b8 (c ^^^ 32):=by
 have h:∀n:Fin 256,Go.bits .xor .u8 ((n.val:Nat):Int) 32=(((UInt8.ofNat n.val ^^^ 32).toNat:Nat):Int):=by decide +kernel
 have:=h ⟨c.toNat,c.toNat_lt⟩;simpa [b8] using this
theorem other_any (c:UInt8) (w:World):Calls Tryz.prog 260 #[.int .u8 (b8 c)] w fun e w'=>e=.returned (.int .u8 (b8 (other c)))∧w=w':=by
 have HO:Hid (b8 (other c)=if (97≤b8 c∧b8 c≤122)∨(65≤b8 c∧b8 c≤90) then b8 (c ^^^ 32) else b8 c):=by
  show _=_
  unfold other;have e:((97≤c.toNat∧c.toNat≤122)∨(65≤c.toNat∧c.toNat≤90))↔((97≤b8 c∧b8 c≤122)∨(65≤b8 c∧b8 c≤90)):=by unfold b8;omega
  simp only [e];split<;>rfl
 have hx:=xor32 c;generalize b8 (other c)=r at HO;generalize b8 (c ^^^ 32)=y at HO hx;generalize b8 c=x at HO hx;by_cases h:(97≤x∧x≤122)∨(65≤x∧x≤90)
 · have HR:Hid (r=y):=by show _=_;rw [HO.out,if_pos h]
   clear HO;by_cases h1:97≤x∧x≤122
   · obtain ⟨g1,g2⟩:=h1
     go_enter Tryz.func260,Tryz.ntmps260
     go_wp2;go_ret;exact ⟨by rw [HR.out];rfl,rfl⟩
   · obtain ⟨g1,g2⟩:65≤x∧x≤90:=by omega
     have g3:¬97≤x:=by omega
     clear h h1;go_enter Tryz.func260,Tryz.ntmps260
     go_wp2;go_ret;exact ⟨by rw [HR.out];rfl,rfl⟩
 · have HR:Hid (r=x):=by show _=_;rw [HO.out,if_neg h]
   clear HO;by_cases h1:97≤x
   · have g2:¬x≤122:=by omega
     have g3:65≤x:=by omega
     have g4:¬x≤90:=by omega
     clear h;go_enter Tryz.func260,Tryz.ntmps260
     go_wp2;go_ret;exact ⟨by rw [HR.out];rfl,rfl⟩
   · by_cases h2:65≤x
     · have g4:¬x≤90:=by omega
       clear h;go_enter Tryz.func260,Tryz.ntmps260
       go_wp2;go_ret;exact ⟨by rw [HR.out];rfl,rfl⟩
     · clear h
       go_enter Tryz.func260,Tryz.ntmps260
       go_wp2;go_ret;exact ⟨by rw [HR.out];rfl,rfl⟩
theorem has_any (lo hi c:UInt8) (w:World):Calls Tryz.prog 259 #[.agg #[.int .u8 (b8 lo),.int .u8 (b8 hi)],.int .u8 (b8 c)] w fun e w'=>e=.returned (.bool (hasR (lo,hi) c))∧Below w.heap.size w w':=by
 have l1:=le8 lo c;have l2:=le8 c hi;have HH:Hid (hasR (lo,hi) c=(decide (lo.toNat≤c.toNat)&&decide (c.toNat≤hi.toNat))):=rfl
 cases h1:decide (lo.toNat≤c.toNat) with
 | false =>
  rw [h1] at l1 HH;clear h1;go_enter Tryz.func259,Tryz.ntmps259
  go_wp2;go_ret;exact ⟨ret_bool (by rw [HH.out];rfl),(Below.refl _ _).alloc (Nat.le_refl _) _⟩
 | true =>
  rw [h1] at l1 HH;clear h1
  cases h2:decide (c.toNat≤hi.toNat) with
  | false =>
   rw [h2] at l2 HH;clear h2;go_enter Tryz.func259,Tryz.ntmps259
   go_wp2;go_ret;exact ⟨ret_bool (by rw [HH.out];rfl),(Below.refl _ _).alloc (Nat.le_refl _) _⟩
  | true =>
   rw [h2] at l2 HH;clear h2;go_enter Tryz.func259,Tryz.ntmps259
   go_wp2;go_ret;exact ⟨ret_bool (by rw [HH.out];rfl),(Below.refl _ _).alloc (Nat.le_refl _) _⟩
set_option maxHeartbeats 1000000 in
theorem spanC_t (lo hi c:UInt8) (fold:Bool) (gc gf:Nat) (w:World) (hc:Has w gc 5 #[.int .u8 (b8 c)]) (hf:Has w gf 4 #[.bool fold]) (h1:hasR (lo,hi) c=true) :
 Calls Tryz.prog 258 #[.agg #[.int .u8 (b8 lo),.int .u8 (b8 hi)],.pointer (some ⟨gc,0,none⟩),.pointer (some ⟨gf,0,none⟩)] w fun e w'=>e=.returned (.bool (hasR (lo,hi) c||fold&&hasR (lo,hi) (other c)))∧Below w.heap.size w w':=by
 obtain ⟨b2,HB2⟩:∃b2,Hid (hasR (lo,hi) (other c)=b2):=⟨_,rfl⟩;rw [h1,HB2.out];obtain ⟨W0,hW0⟩:∃W0,w.alloc (.cells #[.int .u8 (b8 lo),.int .u8 (b8 hi)] 281)=W0:=⟨_,rfl⟩;have hR:Has W0 w.heap.size 281 #[.int .u8 (b8 lo),.int .u8 (b8 hi)]:=hW0▸Has.fresh _ _ _;have hC:Has W0 gc 5 #[.int .u8 (b8 c)]:=hW0▸hc.more _;have hF:Has W0 gf 4 #[.bool fold]:=hW0▸hf.more _;have B0:Hid (Below w.heap.size w W0):=hW0▸(Below.refl _ _).alloc (Nat.le_refl _) _;have LR:Hid (∀W,Below W0.heap.size W0 W→(loadVar 281 ⟨w.heap.size,0,none⟩).run Tryz.prog W=.ok (.agg #[.int .u8 (b8 lo),.int .u8 (b8 hi)]) W):=fun W h=>load_span (hR.stays h)
 have LC:Hid (∀W,Below W0.heap.size W0 W→W.cell? ⟨gc,0,none⟩=some (.int .u8 (b8 c))):=fun W h=>(hC.stays h).at_ 0
 have LF:Hid (∀W,Below W0.heap.size W0 W→W.cell? ⟨gf,0,none⟩=some (.bool fold)):=fun W h=>(hF.stays h).at_ 0
 have C1:Hid (∀W,Calls Tryz.prog 259 #[.agg #[.int .u8 (b8 lo),.int .u8 (b8 hi)],.int .u8 (b8 c)] W fun e w'=>e=.returned (.bool true)∧Below W.heap.size W w'):=fun W=>h1▸has_any lo hi c W
 have C2:Hid (∀W,Calls Tryz.prog 259 #[.agg #[.int .u8 (b8 lo),.int .u8 (b8 hi)],.int .u8 (b8 (other c))] W fun e w'=>e=.returned (.bool b2)∧Below W.heap.size W w'):=fun W=>HB2.out▸has_any lo hi (other c) W
 have C3:Hid (∀W,Calls Tryz.prog 260 #[.int .u8 (b8 c)] W fun e w'=>e=.returned (.int .u8 (b8 (other c)))∧W=w'):=fun W=>other_any c W
 clear hR hC hF hc hf h1 HB2;generalize other c=oc at C2 C3;go_enter Tryz.func258,Tryz.ntmps258
 go_wp2;refine wp_region_noPanic ?_;refine wp_region_held_drew (S:=Below W0.heap.size W0) (by kernel_rfl) ((Below.refl _ _).drew) (fun hS=>?_)
 refine' wpAnyH_take (i:=0) (v:=_) (by simp only [lkA,lkB];rfl) (by kernel_rfl) (by kernel_rfl) (by kernel_rfl) (fun _ _ _ h=>h) (yields_load (by rfl) 281 (.tmp 3) rfl w.heap.size 0 rfl #[.int .u8 (b8 lo),.int .u8 (b8 hi)] (fun W hW=>LR.out W hW)) (by assumption) ?_
 simp only [Act.put,siA,siB,siC];refine tkH 1 (v:=?_) (by simp only [lkA,lkB,lkC];rfl) (by kernel_rfl) (fun _ _ _ h=>h) (by rfl) (by assumption) ?_ ?_
 rotate_left 1
 · intro w hSw
   have cc:=LC.out w hSw;go_simp
   with_reducible rfl
 simp only [Act.put,siA,siB,siC];have z0:Below W0.heap.size W0 W0.drew:=(Below.refl _ _).drew;refine wpAnyH_ready (rs:=[2]) (by kernel_rfl) (by simp) ?_
 refine AllReadyH.cons (by simp only [lkA,lkB,lkC];rfl) (fun K hK=>?_) (AllReadyH.nil)
 go_simp;refine (C1.out _).mono ?_;rintro e2 y2 ⟨rfl,hb2⟩;have hz1:=z0.thenG hb2;refine hK.out _ _ hz1 (fun hS=>?_)
 clear hK K hS;refine tkH 3 (v:=?_) (by simp only [lkA,lkB,lkC];rfl) (by kernel_rfl) (fun _ _ _ h=>h) (by rfl) (by assumption) ?_ ?_
 rotate_left 1
 · intro w hSw
   go_simp
   with_reducible rfl
 simp only [Act.put,siA,siB,siC];refine skH 4 (by simp only [lkA,lkB,lkC];rfl) (by kernel_rfl) (fun _ _ _ h=>h) (by rfl) (by assumption) ?_
 simp only [Act.put,siA,siB,siC];refine skH 5 (by simp only [lkA,lkB,lkC];rfl) (by kernel_rfl) (fun _ _ _ h=>h) (by rfl) (by assumption) ?_
 simp only [Act.put,siA,siB,siC];refine skH 6 (by simp only [lkA,lkB,lkC];rfl) (by kernel_rfl) (fun _ _ _ h=>h) (by rfl) (by assumption) ?_
 simp only [Act.put,siA,siB,siC];refine skH 7 (by simp only [lkA,lkB,lkC];rfl) (by kernel_rfl) (fun _ _ _ h=>h) (by rfl) (by assumption) ?_
 simp only [Act.put,siA,siB,siC];refine skH 8 (by simp only [lkA,lkB,lkC];rfl) (by kernel_rfl) (fun _ _ _ h=>h) (by rfl) (by assumption) ?_
 simp only [Act.put,siA,siB,siC];refine skH 9 (by simp only [lkA,lkB,lkC];rfl) (by kernel_rfl) (fun _ _ _ h=>h) (by rfl) (by assumption) ?_
 simp only [Act.put,siA,siB,siC];refine skH 10 (by simp only [lkA,lkB,lkC];rfl) (by kernel_rfl) (fun _ _ _ h=>h) (by rfl) (by assumption) ?_
 simp only [Act.put,siA,siB,siC];refine inI 11 ?_
 iterate 2
  refine stI (v:=?_) (by simp only [lkA,lkB,lkC];rfl) (by kernel_rfl) (fun _ _ _ h=>h) (by rfl) (by assumption) ?_ ?_
  rotate_left 1
  · intro w hSw
    go_simp
    with_reducible rfl
  simp only [Act.put,siA,siB,siC,Nat.reduceAdd]
 refine outI ?_;refine wpAnyH_done (by kernel_rfl) ?_ _
 refine NoPanic.normal ?_;go_wp2;go_ret;exact ⟨ret_bool (by simp),B0.out.thenG hz1⟩
set_option maxHeartbeats 1000000 in
theorem spanC_ff (lo hi c:UInt8) (gc gf:Nat) (w:World) (hc:Has w gc 5 #[.int .u8 (b8 c)]) (hf:Has w gf 4 #[.bool false]) (h1:hasR (lo,hi) c=false) :
 Calls Tryz.prog 258 #[.agg #[.int .u8 (b8 lo),.int .u8 (b8 hi)],.pointer (some ⟨gc,0,none⟩),.pointer (some ⟨gf,0,none⟩)] w fun e w'=>e=.returned (.bool (hasR (lo,hi) c||false&&hasR (lo,hi) (other c)))∧Below w.heap.size w w':=by
 obtain ⟨b2,HB2⟩:∃b2,Hid (hasR (lo,hi) (other c)=b2):=⟨_,rfl⟩;rw [h1,HB2.out];obtain ⟨W0,hW0⟩:∃W0,w.alloc (.cells #[.int .u8 (b8 lo),.int .u8 (b8 hi)] 281)=W0:=⟨_,rfl⟩;have hR:Has W0 w.heap.size 281 #[.int .u8 (b8 lo),.int .u8 (b8 hi)]:=hW0▸Has.fresh _ _ _;have hC:Has W0 gc 5 #[.int .u8 (b8 c)]:=hW0▸hc.more _;have hF:Has W0 gf 4 #[.bool false]:=hW0▸hf.more _;have B0:Hid (Below w.heap.size w W0):=hW0▸(Below.refl _ _).alloc (Nat.le_refl _) _;have LR:Hid (∀W,Below W0.heap.size W0 W→(loadVar 281 ⟨w.heap.size,0,none⟩).run Tryz.prog W=.ok (.agg #[.int .u8 (b8 lo),.int .u8 (b8 hi)]) W):=fun W h=>load_span (hR.stays h)
 have LC:Hid (∀W,Below W0.heap.size W0 W→W.cell? ⟨gc,0,none⟩=some (.int .u8 (b8 c))):=fun W h=>(hC.stays h).at_ 0
 have LF:Hid (∀W,Below W0.heap.size W0 W→W.cell? ⟨gf,0,none⟩=some (.bool false)):=fun W h=>(hF.stays h).at_ 0
 have C1:Hid (∀W,Calls Tryz.prog 259 #[.agg #[.int .u8 (b8 lo),.int .u8 (b8 hi)],.int .u8 (b8 c)] W fun e w'=>e=.returned (.bool false)∧Below W.heap.size W w'):=fun W=>h1▸has_any lo hi c W
 have C2:Hid (∀W,Calls Tryz.prog 259 #[.agg #[.int .u8 (b8 lo),.int .u8 (b8 hi)],.int .u8 (b8 (other c))] W fun e w'=>e=.returned (.bool b2)∧Below W.heap.size W w'):=fun W=>HB2.out▸has_any lo hi (other c) W
 have C3:Hid (∀W,Calls Tryz.prog 260 #[.int .u8 (b8 c)] W fun e w'=>e=.returned (.int .u8 (b8 (other c)))∧W=w'):=fun W=>other_any c W
 clear hR hC hF hc hf h1 HB2;generalize other c=oc at C2 C3;go_enter Tryz.func258,Tryz.ntmps258
 go_wp2;refine wp_region_noPanic ?_;refine wp_region_held_drew (S:=Below W0.heap.size W0) (by kernel_rfl) ((Below.refl _ _).drew) (fun hS=>?_)
 refine' wpAnyH_take (i:=0) (v:=_) (by simp only [lkA,lkB];rfl) (by kernel_rfl) (by kernel_rfl) (by kernel_rfl) (fun _ _ _ h=>h) (yields_load (by rfl) 281 (.tmp 3) rfl w.heap.size 0 rfl #[.int .u8 (b8 lo),.int .u8 (b8 hi)] (fun W hW=>LR.out W hW)) (by assumption) ?_
 simp only [Act.put,siA,siB,siC];refine tkH 1 (v:=?_) (by simp only [lkA,lkB,lkC];rfl) (by kernel_rfl) (fun _ _ _ h=>h) (by rfl) (by assumption) ?_ ?_
 rotate_left 1
 · intro w hSw
   have cc:=LC.out w hSw;go_simp
   with_reducible rfl
 simp only [Act.put,siA,siB,siC];have z0:Below W0.heap.size W0 W0.drew:=(Below.refl _ _).drew;refine wpAnyH_ready (rs:=[2]) (by kernel_rfl) (by simp) ?_
 refine AllReadyH.cons (by simp only [lkA,lkB,lkC];rfl) (fun K hK=>?_) (AllReadyH.nil)
 go_simp;refine (C1.out _).mono ?_;rintro e2 y2 ⟨rfl,hb2⟩;have hz1:=z0.thenG hb2;refine hK.out _ _ hz1 (fun hS=>?_)
 clear hK K hS;refine tkH 3 (v:=?_) (by simp only [lkA,lkB,lkC];rfl) (by kernel_rfl) (fun _ _ _ h=>h) (by rfl) (by assumption) ?_ ?_
 rotate_left 1
 · intro w hSw
   go_simp
   with_reducible rfl
 simp only [Act.put,siA,siB,siC];refine tkH 4 (v:=?_) (by simp only [lkA,lkB,lkC];rfl) (by kernel_rfl) (fun _ _ _ h=>h) (by rfl) (by assumption) ?_ ?_
 rotate_left 1
 · intro w hSw
   have cf:=LF.out w hSw;go_simp
   with_reducible rfl
 simp only [Act.put,siA,siB,siC];refine tkH 5 (v:=?_) (by simp only [lkA,lkB,lkC];rfl) (by kernel_rfl) (fun _ _ _ h=>h) (by rfl) (by assumption) ?_ ?_
 rotate_left 1
 · intro w hSw
   go_simp
   with_reducible rfl
 simp only [Act.put,siA,siB,siC];refine skH 6 (by simp only [lkA,lkB,lkC];rfl) (by kernel_rfl) (fun _ _ _ h=>h) (by rfl) (by assumption) ?_
 simp only [Act.put,siA,siB,siC];refine skH 7 (by simp only [lkA,lkB,lkC];rfl) (by kernel_rfl) (fun _ _ _ h=>h) (by rfl) (by assumption) ?_
 simp only [Act.put,siA,siB,siC];refine skH 8 (by simp only [lkA,lkB,lkC];rfl) (by kernel_rfl) (fun _ _ _ h=>h) (by rfl) (by assumption) ?_
 simp only [Act.put,siA,siB,siC];refine skH 9 (by simp only [lkA,lkB,lkC];rfl) (by kernel_rfl) (fun _ _ _ h=>h) (by rfl) (by assumption) ?_
 simp only [Act.put,siA,siB,siC];refine inI 10 ?_
 iterate 3
  refine stI (v:=?_) (by simp only [lkA,lkB,lkC];rfl) (by kernel_rfl) (fun _ _ _ h=>h) (by rfl) (by assumption) ?_ ?_
  rotate_left 1
  · intro w hSw
    go_simp
    with_reducible rfl
  simp only [Act.put,siA,siB,siC,Nat.reduceAdd]
 refine outI ?_;refine wpAnyH_done (by kernel_rfl) ?_ _
 refine NoPanic.normal ?_;go_wp2;go_ret;exact ⟨ret_bool (by simp),B0.out.thenG hz1⟩
set_option maxHeartbeats 1000000 in
theorem spanC_ft (lo hi c:UInt8) (gc gf:Nat) (w:World) (hc:Has w gc 5 #[.int .u8 (b8 c)]) (hf:Has w gf 4 #[.bool true]) (h1:hasR (lo,hi) c=false) :
 Calls Tryz.prog 258 #[.agg #[.int .u8 (b8 lo),.int .u8 (b8 hi)],.pointer (some ⟨gc,0,none⟩),.pointer (some ⟨gf,0,none⟩)] w fun e w'=>e=.returned (.bool (hasR (lo,hi) c||true&&hasR (lo,hi) (other c)))∧Below w.heap.size w w':=by
 obtain ⟨b2,HB2⟩:∃b2,Hid (hasR (lo,hi) (other c)=b2):=⟨_,rfl⟩;rw [h1,HB2.out];obtain ⟨W0,hW0⟩:∃W0,w.alloc (.cells #[.int .u8 (b8 lo),.int .u8 (b8 hi)] 281)=W0:=⟨_,rfl⟩;have hR:Has W0 w.heap.size 281 #[.int .u8 (b8 lo),.int .u8 (b8 hi)]:=hW0▸Has.fresh _ _ _;have hC:Has W0 gc 5 #[.int .u8 (b8 c)]:=hW0▸hc.more _;have hF:Has W0 gf 4 #[.bool true]:=hW0▸hf.more _;have B0:Hid (Below w.heap.size w W0):=hW0▸(Below.refl _ _).alloc (Nat.le_refl _) _;have LR:Hid (∀W,Below W0.heap.size W0 W→(loadVar 281 ⟨w.heap.size,0,none⟩).run Tryz.prog W=.ok (.agg #[.int .u8 (b8 lo),.int .u8 (b8 hi)]) W):=fun W h=>load_span (hR.stays h)
 have LC:Hid (∀W,Below W0.heap.size W0 W→W.cell? ⟨gc,0,none⟩=some (.int .u8 (b8 c))):=fun W h=>(hC.stays h).at_ 0
 have LF:Hid (∀W,Below W0.heap.size W0 W→W.cell? ⟨gf,0,none⟩=some (.bool true)):=fun W h=>(hF.stays h).at_ 0
 have C1:Hid (∀W,Calls Tryz.prog 259 #[.agg #[.int .u8 (b8 lo),.int .u8 (b8 hi)],.int .u8 (b8 c)] W fun e w'=>e=.returned (.bool false)∧Below W.heap.size W w'):=fun W=>h1▸has_any lo hi c W
 have C2:Hid (∀W,Calls Tryz.prog 259 #[.agg #[.int .u8 (b8 lo),.int .u8 (b8 hi)],.int .u8 (b8 (other c))] W fun e w'=>e=.returned (.bool b2)∧Below W.heap.size W w'):=fun W=>HB2.out▸has_any lo hi (other c) W
 have C3:Hid (∀W,Calls Tryz.prog 260 #[.int .u8 (b8 c)] W fun e w'=>e=.returned (.int .u8 (b8 (other c)))∧W=w'):=fun W=>other_any c W
 clear hR hC hF hc hf h1 HB2;generalize other c=oc at C2 C3;go_enter Tryz.func258,Tryz.ntmps258
 go_wp2;refine wp_region_noPanic ?_;refine wp_region_held_drew (S:=Below W0.heap.size W0) (by kernel_rfl) ((Below.refl _ _).drew) (fun hS=>?_)
 refine' wpAnyH_take (i:=0) (v:=_) (by simp only [lkA,lkB];rfl) (by kernel_rfl) (by kernel_rfl) (by kernel_rfl) (fun _ _ _ h=>h) (yields_load (by rfl) 281 (.tmp 3) rfl w.heap.size 0 rfl #[.int .u8 (b8 lo),.int .u8 (b8 hi)] (fun W hW=>LR.out W hW)) (by assumption) ?_
 simp only [Act.put,siA,siB,siC];refine tkH 1 (v:=?_) (by simp only [lkA,lkB,lkC];rfl) (by kernel_rfl) (fun _ _ _ h=>h) (by rfl) (by assumption) ?_ ?_
 rotate_left 1
 · intro w hSw
   have cc:=LC.out w hSw;go_simp
   with_reducible rfl
 simp only [Act.put,siA,siB,siC];have z0:Below W0.heap.size W0 W0.drew:=(Below.refl _ _).drew;refine wpAnyH_ready (rs:=[2]) (by kernel_rfl) (by simp) ?_
 refine AllReadyH.cons (by simp only [lkA,lkB,lkC];rfl) (fun K hK=>?_) (AllReadyH.nil)
 go_simp;refine (C1.out _).mono ?_;rintro e2 y2 ⟨rfl,hb2⟩;have hz1:=z0.thenG hb2;refine hK.out _ _ hz1 (fun hS=>?_)
 clear hK K hS;refine tkH 3 (v:=?_) (by simp only [lkA,lkB,lkC];rfl) (by kernel_rfl) (fun _ _ _ h=>h) (by rfl) (by assumption) ?_ ?_
 rotate_left 1
 · intro w hSw
   go_simp
   with_reducible rfl
 simp only [Act.put,siA,siB,siC];refine tkH 4 (v:=?_) (by simp only [lkA,lkB,lkC];rfl) (by kernel_rfl) (fun _ _ _ h=>h) (by rfl) (by assumption) ?_ ?_
 rotate_left 1
 · intro w hSw
   have cf:=LF.out w hSw;go_simp
   with_reducible rfl
 simp only [Act.put,siA,siB,siC];refine tkH 5 (v:=?_) (by simp only [lkA,lkB,lkC];rfl) (by kernel_rfl) (fun _ _ _ h=>h) (by rfl) (by assumption) ?_ ?_
 rotate_left 1
 · intro w hSw
   go_simp
   with_reducible rfl
 simp only [Act.put,siA,siB,siC];refine' wpAnyH_take (i:=6) (v:=_) (by simp only [lkA,lkB,lkC];rfl) (by kernel_rfl) (by kernel_rfl) (by kernel_rfl) (fun _ _ _ h=>h) (yields_load (by rfl) 281 (.tmp 3) rfl w.heap.size 0 rfl #[.int .u8 (b8 lo),.int .u8 (b8 hi)] (fun W hW=>LR.out W hW)) (by assumption) ?_
 simp only [Act.put,siA,siB,siC];refine tkH 7 (v:=?_) (by simp only [lkA,lkB,lkC];rfl) (by kernel_rfl) (fun _ _ _ h=>h) (by rfl) (by assumption) ?_ ?_
 rotate_left 1
 · intro w hSw
   have cc:=LC.out w hSw;go_simp
   with_reducible rfl
 simp only [Act.put,siA,siB,siC];refine wpAnyH_ready (rs:=[8]) (by kernel_rfl) (by simp) ?_
 refine AllReadyH.cons (by simp only [lkA,lkB,lkC];rfl) (fun K hK=>?_) (AllReadyH.nil)
 go_simp;refine (C3.out _).mono ?_;rintro e8 y8 ⟨rfl,rfl⟩;have hz2:=hz1;refine hK.out _ _ hz2 (fun hS=>?_)
 clear hK K hS;refine wpAnyH_ready (rs:=[9]) (by kernel_rfl) (by simp) ?_
 refine AllReadyH.cons (by simp only [lkA,lkB,lkC];rfl) (fun K hK=>?_) (AllReadyH.nil)
 go_simp;refine (C2.out _).mono ?_;rintro e9 y9 ⟨rfl,hb9⟩;have hz3:=hz2.thenG hb9;refine hK.out _ _ hz3 (fun hS=>?_)
 clear hK K hS;refine inI 10 ?_
 iterate 3
  refine stI (v:=?_) (by simp only [lkA,lkB,lkC];rfl) (by kernel_rfl) (fun _ _ _ h=>h) (by rfl) (by assumption) ?_ ?_
  rotate_left 1
  · intro w hSw
    go_simp
    with_reducible rfl
  simp only [Act.put,siA,siB,siC,Nat.reduceAdd]
 refine outI ?_;refine wpAnyH_done (by kernel_rfl) ?_ _
 refine NoPanic.normal ?_;go_wp2;go_ret;exact ⟨ret_bool (by simp),B0.out.thenG hz3⟩
theorem spanC_any (r:Rg) (c:UInt8) (fold:Bool) (gc gf:Nat) (w:World) (hc:Has w gc 5 #[.int .u8 (b8 c)]) (hf:Has w gf 4 #[.bool fold]) :
 Calls Tryz.prog 258 #[.agg #[.int .u8 (b8 r.1),.int .u8 (b8 r.2)],.pointer (some ⟨gc,0,none⟩),.pointer (some ⟨gf,0,none⟩)] w fun e w'=>e=.returned (.bool (hasR r c||fold&&hasR r (other c)))∧Below w.heap.size w w':=by
 obtain ⟨lo,hi⟩:=r
 cases h1:hasR (lo,hi) c with
 | true=>rw [←h1];exact spanC_t lo hi c fold gc gf w hc hf h1
 | false =>
  rw [←h1]
  cases fold with
  | false=>exact spanC_ff lo hi c gc gf w hc hf h1
  | true=>exact spanC_ft lo hi c gc gf w hc hf h1
def scells (rs:List Rg):List Value:=rs.flatMap fun r=>[.int .u8 (b8 r.1),.int .u8 (b8 r.2)]
theorem scells_at (rs:List Rg) (k:Nat) (h:k < rs.length):(scells rs)[k*2]? = some (.int .u8 (b8 rs[k].1))∧(scells rs)[k*2+1]? = some (.int .u8 (b8 rs[k].2)):=by
 induction rs generalizing k with
 | nil=>simp at h
 | cons r rs ih =>
  have e:scells (r :: rs)=[.int .u8 (b8 r.1),.int .u8 (b8 r.2)]++scells rs:=by simp [scells]
  rw [e]
  cases k with
  | zero=>simp
  | succ k =>
   simp only [List.length_cons] at h;have:=ih k (by omega)
   rw [show (k+1)*2=k*2+2 by omega,show k*2+2+1=(k*2+1)+2 by omega]
   simpa using this
def Sps (B:Nat) (w:World) (v:Value) (rs:List Rg):Prop:=w.ownsRow B 281 2 v rs.length (scells rs)
theorem Sps.form {B:Nat} {w:World} {v:Value} {rs:List Rg} (h:Sps B w v rs):(rs=[]∧v=.slice none 0 0)∨∃g cap,v=.slice (some ⟨g,0,none⟩) rs.length cap∧B≤g∧g < w.heap.size∧∀k (hk:k < rs.length),w.cell? ⟨g,k*2,none⟩=some (.int .u8 (b8 rs[k].1))∧w.cell? ⟨g,k*2+1,none⟩=some (.int .u8 (b8 rs[k].2)):=by
 rcases h.2 with ⟨h1,h2⟩ | ⟨g,c,cur,h1,hB,h3,h4,h5,h6,h7⟩
 · exact .inl ⟨List.length_eq_zero_iff.1 h2,h1⟩
 · refine .inr ⟨g,c,h1,hB,(Array.getElem?_eq_some_iff.1 h3).1,fun k hk=>?_⟩
   have hh:Has w g 281 cur:=h3;have e:=scells_at rs k hk;rw [←h7,List.getElem?_take_of_lt (by omega),List.getElem?_take_of_lt (by omega)] at e
   rw [hh.at_,hh.at_];simpa using e
theorem Sps.stays {B:Nat} {w w':World} {v:Value} {rs:List Rg} (h:Sps B w v rs) (hb:Below w.heap.size w w'):Sps B w' v rs:=by
 refine ⟨h.1,?_⟩;rcases h.2 with h1 | ⟨g,c,cur,h1,hB,h3,h4⟩
 · exact .inl h1
 · exact .inr ⟨g,c,cur,h1,hB,(hb.block g (Array.getElem?_eq_some_iff.1 h3).1).trans h3,h4⟩
theorem any_take_succ {α:Type} (l:List α) (p:α→Bool) (k:Nat) (h:k < l.length):(l.take (k+1)).any p=((l.take k).any p||p l[k]):=by
 rw [List.take_succ_eq_append_getElem h,List.any_append];simp
set_option maxHeartbeats 1000000 in
theorem idxf_any (B:Nat) (v:Value) (rs:List Rg) (c:UInt8) (fold:Bool) (gc gf:Nat) (w:World) (hr:Sps B w v rs) (hn:rs.length≤1000) (hc:Has w gc 5 #[.int .u8 (b8 c)]) (hf:Has w gf 4 #[.bool fold]) :
 Calls Tryz.prog 274 #[v,.func (.func 258) #[] #[.pointer (some ⟨gc,0,none⟩),.pointer (some ⟨gf,0,none⟩)]] w fun e w'=>(∃z:Int,e=.returned (.int .i64 z)∧decide (0≤z)=inF fold rs c)∧Below w.heap.size w w':=by
 rcases hr.form with ⟨rfl,rfl⟩ | ⟨g,cap,rfl,hB,hg,hcell⟩
 · go_enter Tryz.func274,Tryz.ntmps274
   go_wp2;refine wp_loop_rounds 1 ?_;rw [rounds_succ];go_wp2;go_ret;exact ⟨⟨-1,rfl,rfl⟩,Below.refl _ _⟩
 · have HC:=hid hc
   have HF:=hid hf;have HL:=hid hcell;clear hc hf hcell hr;have HP:Hid (∀k (hk:k < rs.length) W,Below w.heap.size w W→Calls Tryz.prog 258 #[.agg #[.int .u8 (b8 rs[k].1),.int .u8 (b8 rs[k].2)],.pointer (some ⟨gc,0,none⟩),.pointer (some ⟨gf,0,none⟩)] W fun e w'=>e=.returned (.bool (hasR rs[k] c||fold&&hasR rs[k] (other c)))∧Below W.heap.size W w') :=
    fun k hk W hb=>spanC_any rs[k] c fold gc gf W (HC.out.stays hb) (HF.out.stays hb)
   go_enter Tryz.func274,Tryz.ntmps274
   go_wp2;go_loopw [5,8] (fun _ i wr=>∃k:Nat,i=.int .i64 (k:Int)∧k≤rs.length∧Hid ((rs.take k).any (fun r=>hasR r c||fold&&hasR r (other c))=false)∧Hid (Below w.heap.size w wr))
    (fun _ i _=>rs.length - (intOf i).toNat)
   case atStart=>exact ⟨0,rfl,Nat.zero_le _,rfl,Below.refl _ _⟩
   case round =>
    obtain ⟨k,rfl,hk,HT,HB⟩:=hrel;by_cases hlt:k < rs.length
    · have c0:=(HB.out.cell (p:=⟨g,k*2,none⟩) hg).trans (HL.out k hlt).1
      have c1:=(HB.out.cell (p:=⟨g,k*2+1,none⟩) hg).trans (HL.out k hlt).2;have CP:=hid (HP.out k hlt wr HB.out);have HN:=hid (any_take_succ rs (fun r=>hasR r c||fold&&hasR r (other c)) k hlt)
      obtain ⟨b,hb⟩:∃b,(hasR rs[k] c||fold&&hasR rs[k] (other c))=b:=⟨_,rfl⟩
      rw [hb] at CP;generalize hx:(b8 rs[k].1)=x at c0 CP;generalize hy:(b8 rs[k].2)=y at c1 CP;clear hx hy
      cases b with
      | true =>
       have HA:Hid (rs.any (fun r=>hasR r c||fold&&hasR r (other c))=true):=List.any_eq_true.2 ⟨rs[k],List.getElem_mem _,hb⟩
       clear hb;go_wp2_with (go_at_call 258;refine CP.out.mono ?_;rintro e1 w1 ⟨rfl,hb1⟩)
       go_ret;exact ⟨⟨(k:Int),rfl,by rw [inF,HA.out];exact decide_eq_true (by omega)⟩,HB.out.thenG hb1⟩
      | false =>
       have HN2:Hid ((rs.take (k+1)).any (fun r=>hasR r c||fold&&hasR r (other c))=false):=by show _=_;rw [HN.out,HT.out,hb];rfl
       clear hb HN;go_wp2_with (go_at_call 258;refine CP.out.mono ?_;rintro e1 w1 ⟨rfl,hb1⟩)
       exact ⟨⟨k+1,by go_num,by omega,HN2.out,HB.out.thenG hb1⟩,by simp [intOf];omega⟩
    · have HK:Hid (k=rs.length):=by show _=_;omega
      go_wp2;go_ret;refine ⟨⟨-1,rfl,?_⟩,HB.out⟩;have:=HT.out;rw [HK.out,List.take_length] at this;rw [inF,this];rfl
theorem contf_any (B:Nat) (v:Value) (rs:List Rg) (c:UInt8) (fold:Bool) (gc gf:Nat) (w:World) (hr:Sps B w v rs) (hn:rs.length≤1000) (hc:Has w gc 5 #[.int .u8 (b8 c)]) (hf:Has w gf 4 #[.bool fold]) :
 Calls Tryz.prog 257 #[v,.func (.func 258) #[] #[.pointer (some ⟨gc,0,none⟩),.pointer (some ⟨gf,0,none⟩)]] w fun e w'=>e=.returned (.bool (inF fold rs c))∧Below w.heap.size w w':=by
 have hi:=idxf_any B v rs c fold gc gf w hr hn hc hf;generalize inF fold rs c=b at hi;clear hr hc hf;go_enter Tryz.func257,Tryz.ntmps257
 go_wp2_with (go_at_call 274;refine hi.mono ?_;rintro e1 w1 ⟨⟨z,rfl,hz⟩,hb1⟩)
 go_ret;exact ⟨by rw [←hz];rfl,hb1⟩
end Go.Proofs.YtahkcemdbfjilaaGreatDoor.Glob
namespace Go.Proofs.YtahkcemdbfjilaaGreatDoor.Glob
open Go.RowKit
abbrev Firm (t:TypeId):Prop:=t=242∨t=282∨t=4∨t=281
def Gx (w W:World):Prop:=w.heap.size≤W.heap.size∧∀(j:Nat) (cs:Array Value) (t:TypeId) (q:Nat × Nat),w.heap[j]? = some (Obj.cells cs t q)→Firm t→W.heap[j]? = some (Obj.cells cs t q)
theorem Gx.of_below {w W:World} (h:Below w.heap.size w W):Gx w W :=
 ⟨h.size,fun j _ _ _ ho _=>(h.block j (Array.getElem?_eq_some_iff.1 ho).1).trans ho⟩
theorem Gx.refl (w:World):Gx w w:=Gx.of_below (Below.refl _ _)
theorem Gx.trans {a b c:World} (h:Gx a b) (k:Gx b c):Gx a c:=⟨Nat.le_trans h.1 k.1,fun j cs t q ho hn=>k.2 j cs t q (h.2 j cs t q ho hn) hn⟩
theorem Gx.of_grown {w w':World} {row:Option Nat} (hg:w.grownBy w' row) (hr:∀k,row=some k→∃cs q,w.heap[k]? = some (Obj.cells cs 249 q)):Gx w w':=by
 refine ⟨hg.size,fun j ds t q ho hn=>?_⟩
 refine (hg.block j (Array.getElem?_eq_some_iff.1 ho).1 fun e=>?_).trans ho
 obtain ⟨cs,q,h⟩:=hr j e.symm;have e2:=Option.some.inj (ho.symm.trans h);simp only [Obj.cells.injEq] at e2;rw [e2.2.1] at hn;exact absurd hn (by decide)
theorem Gx.then_below {a b c:World} (h:Gx a b) (k:Below b.heap.size b c):Gx a c:=h.trans (Gx.of_below k)
theorem Has.gx {w W:World} {g:Nat} {t:TypeId} {cs:Array Value} (h:Has w g t cs) (ht:Firm t) (hG:Gx w W):Has W g t cs :=
 hG.2 g _ _ _ h ht
theorem Sps.gx {B:Nat} {w W:World} {v:Value} {rs:List Rg} (h:Sps B w v rs) (hG:Gx w W):Sps B W v rs:=by
 refine ⟨h.1,?_⟩;rcases h.2 with h1 | ⟨g,c,cur,h1,hB,h3,h4⟩
 · exact .inl h1
 · exact .inr ⟨g,c,cur,h1,hB,Has.gx (show Has w g 281 cur from h3) (by decide) hG,h4⟩
def IsFn (w:World) (f:Value) (h:UInt8→Bool):Prop :=
 ∃g lb,f=.func (.func g) #[] lb∧(∀(args:Array Value) (w:World),(callFunc g args).run Tryz.prog w=.ok (.enter g args) w)∧∀(W:World) (c:UInt8),Gx w W→Calls Tryz.prog g (#[.int .u8 (b8 c)]++lb) W fun e W'=>e=.returned (.bool (h c))∧Below W.heap.size W W'
theorem IsFn.gx {w w':World} {f:Value} {h:UInt8→Bool} (k:IsFn w f h) (hb:Gx w w'):IsFn w' f h:=by
 obtain ⟨g,lb,h1,h2,h3⟩:=k;exact ⟨g,lb,h1,h2,fun W c hW=>h3 W c (hb.trans hW)⟩
theorem IsFn.stays {w w':World} {f:Value} {h:UInt8→Bool} (k:IsFn w f h) (hb:Below w.heap.size w w'):IsFn w' f h:=k.gx (Gx.of_below hb)
theorem IsFn.form {w:World} {f:Value} {h:UInt8→Bool} (k:IsFn w f h):∃g lb,f=.func (.func g) #[] lb:=by
 obtain ⟨g,lb,h1,_⟩:=k;exact ⟨g,lb,h1⟩
theorem IsFn.one {w:World} {f:Value} {h:UInt8→Bool} (k:IsFn w f h):f.oneCell'=true:=by
 obtain ⟨g,lb,rfl,_⟩:=k;rfl
theorem anyByteC_any (c:UInt8) (w:World):Calls Tryz.prog 252 #[.int .u8 (b8 c)] w fun e w'=>e=.returned (.bool true)∧Below w.heap.size w w':=by
 go_enter Tryz.func252,Tryz.ntmps252
 go_wp2;go_ret;exact ⟨rfl,Below.refl _ _⟩
theorem anyByte_any (w:World):Calls Tryz.prog 217 #[] w fun e w'=>(∃f,e=.returned f∧IsFn w' f (fun _=>true))∧w=w':=by
 go_enter Tryz.func217,Tryz.ntmps217
 go_wp2;go_ret;exact ⟨⟨_,rfl,252,#[],rfl,enters_of Tryz.func252 (by kernel_rfl) rfl,fun W c _=>anyByteC_any c W⟩,rfl⟩
theorem inPartC_any (c:UInt8) (f:Value) (h:UInt8→Bool) (g:Nat) (w:World) (hf:IsFn w f h) (hg:Has w g 242 #[f]) :
 Calls Tryz.prog 253 #[.int .u8 (b8 c),.pointer (some ⟨g,0,none⟩)] w fun e w'=>e=.returned (.bool (!(c == 47)&&h c))∧Below w.heap.size w w':=by
 obtain ⟨k,lb,rfl,ek,hk⟩:=hf;have c0:w.cell? ⟨g,0,none⟩=some (.func (.func k) #[] lb):=hg.at_ 0;have ne:=ne8 c 47;rw [show b8 47=47 from rfl] at ne
 have CK:=hid (hk w c (Gx.refl _));generalize h c=r at CK;clear hg hk
 cases h7:c == 47 with
 | true =>
  rw [h7] at ne;simp only [Bool.not_true] at ne;clear h7;go_enter Tryz.func253,Tryz.ntmps253
  go_wp2;go_ret;exact ⟨rfl,Below.refl _ _⟩
 | false =>
  rw [h7] at ne;simp only [Bool.not_false] at ne;clear h7;go_enter Tryz.func253,Tryz.ntmps253
  go_wp2_with (go_at_fn k;refine CK.out.mono ?_;rintro e1 w1 ⟨rfl,hb1⟩)
  go_ret;exact ⟨rfl,hb1⟩
theorem inPart_any (f:Value) (h:UInt8→Bool) (w:World) (hf:IsFn w f h) :
 Calls Tryz.prog 218 #[f] w fun e w'=>(∃f',e=.returned f'∧IsFn w' f' (fun c=>!(c == 47)&&h c))∧Below w.heap.size w w':=by
 have hmf:∀(fn:Fn) (first cap:Array Value) (w:World),(Instr.makeFunc fn first cap).run Tryz.prog w=.ok (.func fn first cap) w:=fun _ _ _ _=>rfl
 have HF:=hid hf;obtain ⟨k,lb,hfe,_⟩:=hf;subst hfe;go_enter Tryz.func218,Tryz.ntmps218
 go_wp2;go_ret;refine ⟨⟨_,rfl,253,_,rfl,enters_of Tryz.func253 (by kernel_rfl) rfl,fun W c hW=>?_⟩,(Below.refl _ _).alloc (Nat.le_refl _) _⟩
 exact inPartC_any c _ h w.heap.size W ((HF.out.stays ((Below.refl _ _).alloc (Nat.le_refl _) _)).gx hW) ((Has.fresh w 242 _).gx (by decide) hW)
theorem notC_any (c:UInt8) (f:Value) (h:UInt8→Bool) (g:Nat) (w:World) (hf:IsFn w f h) (hg:Has w g 242 #[f]) :
 Calls Tryz.prog 273 #[.int .u8 (b8 c),.pointer (some ⟨g,0,none⟩)] w fun e w'=>e=.returned (.bool (!h c))∧Below w.heap.size w w':=by
 obtain ⟨k,lb,rfl,ek,hk⟩:=hf;have c0:w.cell? ⟨g,0,none⟩=some (.func (.func k) #[] lb):=hg.at_ 0;have CK:=hid (hk w c (Gx.refl _));generalize h c=r at CK;clear hg hk;go_enter Tryz.func273,Tryz.ntmps273
 go_wp2_with (go_at_fn k;refine CK.out.mono ?_;rintro e1 w1 ⟨rfl,hb1⟩)
 go_ret;exact ⟨rfl,hb1⟩
theorem not_any (f:Value) (h:UInt8→Bool) (w:World) (hf:IsFn w f h) :
 Calls Tryz.prog 255 #[f] w fun e w'=>(∃f',e=.returned f'∧IsFn w' f' (fun c=>!h c))∧Below w.heap.size w w':=by
 have hmf:∀(fn:Fn) (first cap:Array Value) (w:World),(Instr.makeFunc fn first cap).run Tryz.prog w=.ok (.func fn first cap) w:=fun _ _ _ _=>rfl
 have HF:=hid hf;obtain ⟨k,lb,hfe,_⟩:=hf;subst hfe;go_enter Tryz.func255,Tryz.ntmps255
 go_wp2;go_ret;refine ⟨⟨_,rfl,273,_,rfl,enters_of Tryz.func273 (by kernel_rfl) rfl,fun W c hW=>?_⟩,(Below.refl _ _).alloc (Nat.le_refl _) _⟩
 exact notC_any c _ h w.heap.size W ((HF.out.stays ((Below.refl _ _).alloc (Nat.le_refl _) _)).gx hW) ((Has.fresh w 242 _).gx (by decide) hW)
theorem withinC_any (B:Nat) (v:Value) (rs:List Rg) (fold:Bool) (c:UInt8) (gl gf:Nat) (w:World) (hr:Sps B w v rs) (hn:rs.length≤1000) (hl:Has w gl 282 #[v]) (hf:Has w gf 4 #[.bool fold]) :
 Calls Tryz.prog 256 #[.int .u8 (b8 c),.pointer (some ⟨gl,0,none⟩),.pointer (some ⟨gf,0,none⟩)] w fun e w'=>e=.returned (.bool (inF fold rs c))∧Below w.heap.size w w':=by
 have hmf:∀(fn:Fn) (first cap:Array Value) (w:World),(Instr.makeFunc fn first cap).run Tryz.prog w=.ok (.func fn first cap) w:=fun _ _ _ _=>rfl
 obtain ⟨W0,hW0⟩:∃W0,w.alloc (.cells #[.int .u8 (b8 c)] 5)=W0:=⟨_,rfl⟩;have B0:Below w.heap.size w W0:=hW0▸(Below.refl _ _).alloc (Nat.le_refl _) _;have c0:W0.cell? ⟨gl,0,none⟩=some v:=(hl.stays B0).at_ 0;have HC:=hid (contf_any B v rs c fold w.heap.size gf W0 (hr.stays B0) hn (hW0▸Has.fresh _ _ _) (hf.stays B0));have HB:=hid B0;obtain ⟨A,n,cap,rfl⟩:∃A n cap,v=.slice A n cap:=by
  rcases hr.form with ⟨_,h⟩ | ⟨g,cap,h,_⟩
  · exact ⟨_,_,_,h⟩
  · exact ⟨_,_,_,h⟩
 generalize inF fold rs c=b at HC;clear hr hn hl hf B0;go_enter Tryz.func256,Tryz.ntmps256
 go_wp2_with (go_at_call 257;refine HC.out.mono ?_;rintro e1 w1 ⟨rfl,hb1⟩)
 go_ret;exact ⟨rfl,HB.out.thenG hb1⟩
theorem within_any (B:Nat) (v:Value) (rs:List Rg) (fold:Bool) (w:World) (hr:Sps B w v rs) (hn:rs.length≤1000) :
 Calls Tryz.prog 221 #[v,.bool fold] w fun e w'=>(∃f,e=.returned f∧IsFn w' f (inF fold rs))∧Below w.heap.size w w':=by
 have hmf:∀(fn:Fn) (first cap:Array Value) (w:World),(Instr.makeFunc fn first cap).run Tryz.prog w=.ok (.func fn first cap) w:=fun _ _ _ _=>rfl
 have HR:=hid hr;have HN:=hid hn;obtain ⟨A,n,cap,rfl⟩:∃A n cap,v=.slice A n cap:=by
  rcases hr.form with ⟨_,h⟩ | ⟨g,cap,h,_⟩
  · exact ⟨_,_,_,h⟩
  · exact ⟨_,_,_,h⟩
 clear hr hn;go_enter Tryz.func221,Tryz.ntmps221
 go_wp2;go_ret;have B2:Below w.heap.size w ((w.alloc (.cells #[.slice A n cap] 282)).alloc (.cells #[.bool fold] 4)):=((Below.refl _ _).alloc (Nat.le_refl _) _).alloc (by simp) _
 refine ⟨⟨_,rfl,256,_,rfl,enters_of Tryz.func256 (by kernel_rfl) rfl,fun W c hW=>?_⟩,B2⟩
 exact withinC_any B _ rs fold c w.heap.size (w.heap.size+1) W ((HR.out.stays B2).gx hW) HN.out ((Has.more (Has.fresh w 282 _) _).gx (by decide) hW) ((Has.fresh' _ 4 _ (by simp)).gx (by decide) hW)
end Go.Proofs.YtahkcemdbfjilaaGreatDoor.Glob
