/- Texts. Conditions: as said. -/
import Derived.Test.YtahkcemdbfjilaaGreatDoorFj00
import Derived.Test.YtahkcemdbfjilaaGreatDoorFj10
import Derived.OwnWalk
set_option linter.all false
set_option maxRecDepth 100000
set_option maxHeartbeats 32000000
namespace Go.Proofs.YtahkcemdbfjilaaGreatDoor.Glob
open Go.RowKit
def cU {ops:Array Oper} {S:World->Prop} {o:Oper} {a:Act} (hw:Region.wanted o (yielded ops a.tmps)=true) (ty:TypeId) (x:Operand) (ho:o.op=.load ty x) (g off:Nat) (hx:a.eval x=.pointer (some ⟨g,off,none⟩)) (cs:Array Value)
 (hS:∀w,S w->(loadVar ty ⟨g,off,none⟩).run Tryz.prog w=.ok (.agg cs) w):YieldsIf Tryz.prog ops S o (.agg cs) a :=
 .inl ⟨hw,fun w IF=>by
  unfold execOp;simp only [ho,hx,Instr.loadAt,Instr.sureAddr,Sem.run_bind,Sem.run_pure,Result.andThen_ok,hS w IF]⟩
def mS (c:UInt8):Go.bits .xor .u8 (b8 c) 32=b8 (c ^^^ 32):=by
 have h:∀n:Fin 256,Go.bits .xor .u8 ((n.val:Nat):Int) 32=(((UInt8.ofNat n.val ^^^ 32).toNat:Nat):Int):=by decide +kernel
 have:=h ⟨c.toNat,c.toNat_lt⟩;simpa [b8] using this
def sH (c:UInt8) (w:World):qC 260 #[.int .u8 (b8 c)] w fun e w'=>e=.returned (.int .u8 (b8 (other c)))/\w=w':=by
 have HO:Hid (b8 (other c)=if (97<=b8 c/\b8 c<=122)∨(65<=b8 c/\b8 c<=90) then b8 (c ^^^ 32) else b8 c):=by
  show _=_
  unfold other;have e:((97<=c.toNat/\c.toNat<=122)∨(65<=c.toNat/\c.toNat<=90))↔((97<=b8 c/\b8 c<=122)∨(65<=b8 c/\b8 c<=90)):=by unfold b8;omega
  simp only [e];split<;>rfl
 have hx:=mS c;generalize b8 (other c)=r at HO;generalize b8 (c ^^^ 32)=y at HO hx;generalize b8 c=x at HO hx;by_cases h:(97<=x/\x<=122)∨(65<=x/\x<=90)
 .
  have HR:Hid (r=y):=by show _=_;rw [HO.o,if_pos h]
  clear HO;by_cases h1:97<=x/\x<=122
  . obtain ⟨g1,g2⟩:=h1
    go_enter Tryz.func260,Tryz.ntmps260
    go_wp2;go_ret;exact ⟨by rw [HR.o];rfl,rfl⟩
  obtain ⟨g1,g2⟩:65<=x/\x<=90:=by omega
  have g3:¬97<=x:=by omega
  clear h h1;go_enter Tryz.func260,Tryz.ntmps260
  go_wp2;go_ret;exact ⟨by rw [HR.o];rfl,rfl⟩
 have HR:Hid (r=x):=by show _=_;rw [HO.o,if_neg h]
 clear HO;by_cases h1:97<=x
 .
  have g2:¬x<=122:=by omega
  have g3:65<=x:=by omega
  have g4:¬x<=90:=by omega
  clear h;go_enter Tryz.func260,Tryz.ntmps260
  go_wp2;go_ret;exact ⟨by rw [HR.o];rfl,rfl⟩
 by_cases h2:65<=x
 .
  have g4:¬x<=90:=by omega
  clear h;go_enter Tryz.func260,Tryz.ntmps260
  go_wp2;go_ret;exact ⟨by rw [HR.o];rfl,rfl⟩
 clear h;go_enter Tryz.func260,Tryz.ntmps260
 go_wp2;go_ret;exact ⟨by rw [HR.o];rfl,rfl⟩
def mX (lo hi c:UInt8) (w:World):qC 259 #[.agg #[.int .u8 (b8 lo),.int .u8 (b8 hi)],.int .u8 (b8 c)] w fun e w'=>e=.returned (.bool (aW (lo,hi) c))/\qW w w':=by
 have l1:=Bd lo c;have l2:=Bd c hi;have HH:Hid (aW (lo,hi) c=(decide (lo.toNat<=c.toNat)&&decide (c.toNat<=hi.toNat))):=rfl
 cases h1:decide (lo.toNat<=c.toNat) with
 | false =>
  rw [h1] at l1 HH;clear h1;go_enter Tryz.func259,Tryz.ntmps259
  go_wp2;go_ret;exact ⟨aF (by rw [HH.o];rfl),qB.alloc qN _⟩
 | true =>
  rw [h1] at l1 HH;clear h1
  cases h2:decide (c.toNat<=hi.toNat) with
  | false =>
   rw [h2] at l2 HH;clear h2;go_enter Tryz.func259,Tryz.ntmps259
   go_wp2;go_ret;exact ⟨aF (by rw [HH.o];rfl),qB.alloc qN _⟩
  | true =>
   rw [h2] at l2 HH;clear h2;go_enter Tryz.func259,Tryz.ntmps259
   go_wp2;go_ret;exact ⟨aF (by rw [HH.o];rfl),qB.alloc qN _⟩
def bg (lo hi c:UInt8) (fold:Bool) (gc gf:Nat) (w:World) (hc:Has w gc 5 #[.int .u8 (b8 c)]) (hf:Has w gf 4 #[.bool fold]) (h1:aW (lo,hi) c=true) :
 qC 258 #[.agg #[.int .u8 (b8 lo),.int .u8 (b8 hi)],.pointer (some ⟨gc,0,none⟩),.pointer (some ⟨gf,0,none⟩)] w fun e w'=>e=.returned (.bool (aW (lo,hi) c||fold&&aW (lo,hi) (other c)))/\qW w w':=by
 obtain ⟨b2,i9⟩:=qX (aW (lo,hi) (other c));rw [h1,i9.o];obtain ⟨W0,o6⟩:=qY (w.alloc (.cells #[.int .u8 (b8 lo),.int .u8 (b8 hi)] 281));have hR:Has W0 w.heap.size 281 #[.int .u8 (b8 lo),.int .u8 (b8 hi)]:=o6▸Has.fresh _ _ _;have hC:Has W0 gc 5 #[.int .u8 (b8 c)]:=o6▸hc.more _;have hF:Has W0 gf 4 #[.bool fold]:=o6▸hf.more _;have B0:Hid (qW w W0):=o6▸qB.alloc qN _;have LR:Hid (∀W,qW W0 W->(loadVar 281 ⟨w.heap.size,0,none⟩).run Tryz.prog W=.ok (.agg #[.int .u8 (b8 lo),.int .u8 (b8 hi)]) W):=fun W h=>cC (hR.stays h)
 have LC:Hid (∀W,qW W0 W->W.cell? ⟨gc,0,none⟩=some (.int .u8 (b8 c))):=fun W h=>(hC.stays h).at_ 0
 have LF:Hid (∀W,qW W0 W->W.cell? ⟨gf,0,none⟩=some (.bool fold)):=fun W h=>(hF.stays h).at_ 0
 have C1:Hid (∀W,qC 259 #[.agg #[.int .u8 (b8 lo),.int .u8 (b8 hi)],.int .u8 (b8 c)] W fun e w'=>e=.returned (.bool true)/\qW W w'):=fun W=>h1▸mX lo hi c W
 have C2:Hid (∀W,qC 259 #[.agg #[.int .u8 (b8 lo),.int .u8 (b8 hi)],.int .u8 (b8 (other c))] W fun e w'=>e=.returned (.bool b2)/\qW W w'):=fun W=>i9.o▸mX lo hi (other c) W
 have C3:Hid (∀W,qC 260 #[.int .u8 (b8 c)] W fun e w'=>e=.returned (.int .u8 (b8 (other c)))/\W=w'):=fun W=>sH c W
 clear hR hC hF hc hf h1 i9;generalize other c=oc at C2 C3;go_enter Tryz.func258,Tryz.ntmps258
 go_wp2;refine qG (S:=Below W0.heap.size W0) (by kernel_rfl) (qB.drew) (fun hS=>?_);refine' qL 0 rfl (by kernel_rfl) (cU (by rfl) 281 (.tmp 3) rfl w.heap.size 0 rfl #[.int .u8 (b8 lo),.int .u8 (b8 hi)] (fun W hW=>LR.o W hW)) ‹_› ?_;simp only [Act.put,aB,aA,aC];refine qK 1 rfl (by kernel_rfl) ‹_› (fun w a8=>by have cc:=LC.o w a8;go_simp;with_reducible rfl) ?_;simp only [Act.put,aB,aA,aC];have z0:qW W0 W0.drew:=qB.drew;refine qD 2 rfl (by kernel_rfl) fun K hK=>?_
 go_simp;refine (C1.o _).mono ?_;rintro e2 y2 ⟨rfl,a9⟩;have g8:=z0.thenG a9;refine hK.o _ _ g8 (fun hS=>?_);clear hK K hS;refine qK 3 rfl (by kernel_rfl) ‹_› (fun w a8=>by go_simp;with_reducible rfl) ?_;simp only [Act.put,aB,aA,aC];refine aG 4 ?_
 iterate 7
  refine qU rfl (by kernel_rfl) ‹_› ?_;simp only [Act.put,aB,aA,aC,Nat.reduceAdd]
 refine aE ?_;refine aG 11 ?_
 iterate 2
  refine qT rfl (by kernel_rfl) ‹_› (fun w a8=>by go_simp;with_reducible rfl) ?_;simp only [Act.put,aB,aA,aC,Nat.reduceAdd]
 refine aE ?_;refine qM (by kernel_rfl) ?_;go_wp2;go_ret;exact ⟨aF (by simp),B0.o.thenG g8⟩
def Tq (lo hi c:UInt8) (gc gf:Nat) (w:World) (hc:Has w gc 5 #[.int .u8 (b8 c)]) (hf:Has w gf 4 #[.bool false]) (h1:aW (lo,hi) c=false) :
 qC 258 #[.agg #[.int .u8 (b8 lo),.int .u8 (b8 hi)],.pointer (some ⟨gc,0,none⟩),.pointer (some ⟨gf,0,none⟩)] w fun e w'=>e=.returned (.bool (aW (lo,hi) c||false&&aW (lo,hi) (other c)))/\qW w w':=by
 obtain ⟨b2,i9⟩:=qX (aW (lo,hi) (other c));rw [h1,i9.o];obtain ⟨W0,o6⟩:=qY (w.alloc (.cells #[.int .u8 (b8 lo),.int .u8 (b8 hi)] 281));have hR:Has W0 w.heap.size 281 #[.int .u8 (b8 lo),.int .u8 (b8 hi)]:=o6▸Has.fresh _ _ _;have hC:Has W0 gc 5 #[.int .u8 (b8 c)]:=o6▸hc.more _;have hF:Has W0 gf 4 #[.bool false]:=o6▸hf.more _;have B0:Hid (qW w W0):=o6▸qB.alloc qN _;have LR:Hid (∀W,qW W0 W->(loadVar 281 ⟨w.heap.size,0,none⟩).run Tryz.prog W=.ok (.agg #[.int .u8 (b8 lo),.int .u8 (b8 hi)]) W):=fun W h=>cC (hR.stays h)
 have LC:Hid (∀W,qW W0 W->W.cell? ⟨gc,0,none⟩=some (.int .u8 (b8 c))):=fun W h=>(hC.stays h).at_ 0
 have LF:Hid (∀W,qW W0 W->W.cell? ⟨gf,0,none⟩=some (.bool false)):=fun W h=>(hF.stays h).at_ 0
 have C1:Hid (∀W,qC 259 #[.agg #[.int .u8 (b8 lo),.int .u8 (b8 hi)],.int .u8 (b8 c)] W fun e w'=>e=.returned (.bool false)/\qW W w'):=fun W=>h1▸mX lo hi c W
 have C2:Hid (∀W,qC 259 #[.agg #[.int .u8 (b8 lo),.int .u8 (b8 hi)],.int .u8 (b8 (other c))] W fun e w'=>e=.returned (.bool b2)/\qW W w'):=fun W=>i9.o▸mX lo hi (other c) W
 have C3:Hid (∀W,qC 260 #[.int .u8 (b8 c)] W fun e w'=>e=.returned (.int .u8 (b8 (other c)))/\W=w'):=fun W=>sH c W
 clear hR hC hF hc hf h1 i9;generalize other c=oc at C2 C3;go_enter Tryz.func258,Tryz.ntmps258
 go_wp2;refine qG (S:=Below W0.heap.size W0) (by kernel_rfl) (qB.drew) (fun hS=>?_);refine' qL 0 rfl (by kernel_rfl) (cU (by rfl) 281 (.tmp 3) rfl w.heap.size 0 rfl #[.int .u8 (b8 lo),.int .u8 (b8 hi)] (fun W hW=>LR.o W hW)) ‹_› ?_;simp only [Act.put,aB,aA,aC];refine qK 1 rfl (by kernel_rfl) ‹_› (fun w a8=>by have cc:=LC.o w a8;go_simp;with_reducible rfl) ?_;simp only [Act.put,aB,aA,aC];have z0:qW W0 W0.drew:=qB.drew;refine qD 2 rfl (by kernel_rfl) fun K hK=>?_
 go_simp;refine (C1.o _).mono ?_;rintro e2 y2 ⟨rfl,a9⟩;have g8:=z0.thenG a9;refine hK.o _ _ g8 (fun hS=>?_);clear hK K hS;refine qK 3 rfl (by kernel_rfl) ‹_› (fun w a8=>by go_simp;with_reducible rfl) ?_;simp only [Act.put,aB,aA,aC];refine qK 4 rfl (by kernel_rfl) ‹_› (fun w a8=>by have cf:=LF.o w a8;go_simp;with_reducible rfl) ?_;simp only [Act.put,aB,aA,aC];refine qK 5 rfl (by kernel_rfl) ‹_› (fun w a8=>by go_simp;with_reducible rfl) ?_;simp only [Act.put,aB,aA,aC];refine aG 6 ?_
 iterate 4
  refine qU rfl (by kernel_rfl) ‹_› ?_;simp only [Act.put,aB,aA,aC,Nat.reduceAdd]
 refine aE ?_;refine aG 10 ?_
 iterate 3
  refine qT rfl (by kernel_rfl) ‹_› (fun w a8=>by go_simp;with_reducible rfl) ?_;simp only [Act.put,aB,aA,aC,Nat.reduceAdd]
 refine aE ?_;refine qM (by kernel_rfl) ?_;go_wp2;go_ret;exact ⟨aF (by simp),B0.o.thenG g8⟩
def Wm (lo hi c:UInt8) (gc gf:Nat) (w:World) (hc:Has w gc 5 #[.int .u8 (b8 c)]) (hf:Has w gf 4 #[.bool true]) (h1:aW (lo,hi) c=false) :
 qC 258 #[.agg #[.int .u8 (b8 lo),.int .u8 (b8 hi)],.pointer (some ⟨gc,0,none⟩),.pointer (some ⟨gf,0,none⟩)] w fun e w'=>e=.returned (.bool (aW (lo,hi) c||true&&aW (lo,hi) (other c)))/\qW w w':=by
 obtain ⟨b2,i9⟩:=qX (aW (lo,hi) (other c));rw [h1,i9.o];obtain ⟨W0,o6⟩:=qY (w.alloc (.cells #[.int .u8 (b8 lo),.int .u8 (b8 hi)] 281));have hR:Has W0 w.heap.size 281 #[.int .u8 (b8 lo),.int .u8 (b8 hi)]:=o6▸Has.fresh _ _ _;have hC:Has W0 gc 5 #[.int .u8 (b8 c)]:=o6▸hc.more _;have hF:Has W0 gf 4 #[.bool true]:=o6▸hf.more _;have B0:Hid (qW w W0):=o6▸qB.alloc qN _;have LR:Hid (∀W,qW W0 W->(loadVar 281 ⟨w.heap.size,0,none⟩).run Tryz.prog W=.ok (.agg #[.int .u8 (b8 lo),.int .u8 (b8 hi)]) W):=fun W h=>cC (hR.stays h)
 have LC:Hid (∀W,qW W0 W->W.cell? ⟨gc,0,none⟩=some (.int .u8 (b8 c))):=fun W h=>(hC.stays h).at_ 0
 have LF:Hid (∀W,qW W0 W->W.cell? ⟨gf,0,none⟩=some (.bool true)):=fun W h=>(hF.stays h).at_ 0
 have C1:Hid (∀W,qC 259 #[.agg #[.int .u8 (b8 lo),.int .u8 (b8 hi)],.int .u8 (b8 c)] W fun e w'=>e=.returned (.bool false)/\qW W w'):=fun W=>h1▸mX lo hi c W
 have C2:Hid (∀W,qC 259 #[.agg #[.int .u8 (b8 lo),.int .u8 (b8 hi)],.int .u8 (b8 (other c))] W fun e w'=>e=.returned (.bool b2)/\qW W w'):=fun W=>i9.o▸mX lo hi (other c) W
 have C3:Hid (∀W,qC 260 #[.int .u8 (b8 c)] W fun e w'=>e=.returned (.int .u8 (b8 (other c)))/\W=w'):=fun W=>sH c W
 clear hR hC hF hc hf h1 i9;generalize other c=oc at C2 C3;go_enter Tryz.func258,Tryz.ntmps258
 go_wp2;refine qG (S:=Below W0.heap.size W0) (by kernel_rfl) (qB.drew) (fun hS=>?_);refine' qL 0 rfl (by kernel_rfl) (cU (by rfl) 281 (.tmp 3) rfl w.heap.size 0 rfl #[.int .u8 (b8 lo),.int .u8 (b8 hi)] (fun W hW=>LR.o W hW)) ‹_› ?_;simp only [Act.put,aB,aA,aC];refine qK 1 rfl (by kernel_rfl) ‹_› (fun w a8=>by have cc:=LC.o w a8;go_simp;with_reducible rfl) ?_;simp only [Act.put,aB,aA,aC];have z0:qW W0 W0.drew:=qB.drew;refine qD 2 rfl (by kernel_rfl) fun K hK=>?_
 go_simp;refine (C1.o _).mono ?_;rintro e2 y2 ⟨rfl,a9⟩;have g8:=z0.thenG a9;refine hK.o _ _ g8 (fun hS=>?_);clear hK K hS;refine qK 3 rfl (by kernel_rfl) ‹_› (fun w a8=>by go_simp;with_reducible rfl) ?_;simp only [Act.put,aB,aA,aC];refine qK 4 rfl (by kernel_rfl) ‹_› (fun w a8=>by have cf:=LF.o w a8;go_simp;with_reducible rfl) ?_;simp only [Act.put,aB,aA,aC];refine qK 5 rfl (by kernel_rfl) ‹_› (fun w a8=>by go_simp;with_reducible rfl) ?_;simp only [Act.put,aB,aA,aC];refine' qL 6 rfl (by kernel_rfl) (cU (by rfl) 281 (.tmp 3) rfl w.heap.size 0 rfl #[.int .u8 (b8 lo),.int .u8 (b8 hi)] (fun W hW=>LR.o W hW)) ‹_› ?_;simp only [Act.put,aB,aA,aC];refine qK 7 rfl (by kernel_rfl) ‹_› (fun w a8=>by have cc:=LC.o w a8;go_simp;with_reducible rfl) ?_;simp only [Act.put,aB,aA,aC];refine qD 8 rfl (by kernel_rfl) fun K hK=>?_
 go_simp;refine (C3.o _).mono ?_;rintro e8 y8 ⟨rfl,rfl⟩;have j5:=g8;refine hK.o _ _ j5 (fun hS=>?_);clear hK K hS;refine qD 9 rfl (by kernel_rfl) fun K hK=>?_
 go_simp;refine (C2.o _).mono ?_;rintro e9 y9 ⟨rfl,x7⟩;have RY:=j5.thenG x7;refine hK.o _ _ RY (fun hS=>?_);clear hK K hS;refine aG 10 ?_
 iterate 3
  refine qT rfl (by kernel_rfl) ‹_› (fun w a8=>by go_simp;with_reducible rfl) ?_;simp only [Act.put,aB,aA,aC,Nat.reduceAdd]
 refine aE ?_;refine qM (by kernel_rfl) ?_;go_wp2;go_ret;exact ⟨aF (by simp),B0.o.thenG RY⟩
def So (r:Rg) (c:UInt8) (fold:Bool) (gc gf:Nat) (w:World) (hc:Has w gc 5 #[.int .u8 (b8 c)]) (hf:Has w gf 4 #[.bool fold]) :
 qC 258 #[.agg #[.int .u8 (b8 r.1),.int .u8 (b8 r.2)],.pointer (some ⟨gc,0,none⟩),.pointer (some ⟨gf,0,none⟩)] w fun e w'=>e=.returned (.bool (aW r c||fold&&aW r (other c)))/\qW w w':=by
 obtain ⟨lo,hi⟩:=r
 cases h1:aW (lo,hi) c with
 | true=>rw [<-h1];exact bg lo hi c fold gc gf w hc hf h1
 | false =>
  rw [<-h1]
  cases fold with
  | false=>exact Tq lo hi c gc gf w hc hf h1
  | true=>exact Wm lo hi c gc gf w hc hf h1
def gR (rs:List Rg):List Value:=rs.flatMap fun r=>[.int .u8 (b8 r.1),.int .u8 (b8 r.2)]
def zJ (rs:List Rg) (k:Nat) (h:k < rs.length):(gR rs)[k*2]? = some (.int .u8 (b8 rs[k].1))/\(gR rs)[k*2+1]? = some (.int .u8 (b8 rs[k].2)):=by
 induction rs generalizing k with
 | nil=>simp at h
 | cons r rs ih =>
  have e:gR (r :: rs)=[.int .u8 (b8 r.1),.int .u8 (b8 r.2)]++gR rs:=by simp [gR]
  rw [e]
  cases k with
  | zero=>simp
  | succ k =>
   simp only [List.length_cons] at h;have:=ih k (by omega);rw [show (k+1)*2=k*2+2 by omega,show k*2+2+1=(k*2+1)+2 by omega];simpa using this
def mI (B:Nat) (w:World) (v:Value) (rs:List Rg):Prop:=w.ownsRow B 281 2 v rs.length (gR rs)
def mI.form {B:Nat} {w:World} {v:Value} {rs:List Rg} (h:mI B w v rs):(rs=[]/\v=.slice none 0 0)∨∃g cap,v=.slice (some ⟨g,0,none⟩) rs.length cap/\B<=g/\g < w.heap.size/\∀k (hk:k < rs.length),w.cell? ⟨g,k*2,none⟩=some (.int .u8 (b8 rs[k].1))/\w.cell? ⟨g,k*2+1,none⟩=some (.int .u8 (b8 rs[k].2)):=by
 rcases h.2 with ⟨h1,h2⟩ | ⟨g,c,cur,h1,hB,h3,h4,h5,h6,h7⟩
 . exact .inl ⟨List.length_eq_zero_iff.1 h2,h1⟩
 refine .inr ⟨g,c,h1,hB,(Array.getElem?_eq_some_iff.1 h3).1,fun k hk=>?_⟩;have hh:Has w g 281 cur:=h3;have e:=zJ rs k hk;rw [<-h7,List.getElem?_take_of_lt (by omega),List.getElem?_take_of_lt (by omega)] at e;rw [hh.at_,hh.at_];simpa using e
def mI.stays {B:Nat} {w w':World} {v:Value} {rs:List Rg} (h:mI B w v rs) (hb:qW w w'):mI B w' v rs:=by
 refine ⟨h.1,?_⟩;rcases h.2 with h1 | ⟨g,c,cur,h1,hB,h3,h4⟩
 . exact .inl h1
 exact .inr ⟨g,c,cur,h1,hB,(hb.block g (Array.getElem?_eq_some_iff.1 h3).1).trans h3,h4⟩
def any_take_succ {α:Type} (l:List α) (p:α->Bool) (k:Nat) (h:k < l.length):(l.take (k+1)).any p=((l.take k).any p||p l[k]):=by
 rw [List.take_succ_eq_append_getElem h,List.any_append];simp
def Xi (B:Nat) (v:Value) (rs:List Rg) (c:UInt8) (fold:Bool) (gc gf:Nat) (w:World) (hr:mI B w v rs) (hn:rs.length<=1000) (hc:Has w gc 5 #[.int .u8 (b8 c)]) (hf:Has w gf 4 #[.bool fold]) :
 qC 274 #[v,.func (.func 258) #[] #[.pointer (some ⟨gc,0,none⟩),.pointer (some ⟨gf,0,none⟩)]] w fun e w'=>(∃z:Int,e=.returned (.int .i64 z)/\decide (0<=z)=nT fold rs c)/\qW w w':=by
 rcases hr.form with ⟨rfl,rfl⟩ | ⟨g,cap,rfl,hB,hg,d9⟩
 .
  go_enter Tryz.func274,Tryz.ntmps274
  go_wp2;refine wp_loop_rounds 1 ?_;rw [rounds_succ];go_wp2;go_ret;exact ⟨⟨-1,rfl,rfl⟩,Below.refl _ _⟩
 have HC:=hid hc;have HF:=hid hf;have HL:=hid d9;clear hc hf d9 hr;have HP:Hid (∀k (hk:k < rs.length) W,qW w W->qC 258 #[.agg #[.int .u8 (b8 rs[k].1),.int .u8 (b8 rs[k].2)],.pointer (some ⟨gc,0,none⟩),.pointer (some ⟨gf,0,none⟩)] W fun e w'=>e=.returned (.bool (aW rs[k] c||fold&&aW rs[k] (other c)))/\qW W w') :=
  fun k hk W hb=>So rs[k] c fold gc gf W (HC.o.stays hb) (HF.o.stays hb)
 go_enter Tryz.func274,Tryz.ntmps274
 go_wp2;go_loopw [5,8] (fun _ i wr=>∃k:Nat,i=.int .i64 (k:Int)/\k<=rs.length/\Hid ((rs.take k).any (fun r=>aW r c||fold&&aW r (other c))=false)/\Hid (qW w wr))
  (fun _ i _=>rs.length - (intOf i).toNat)
 case atStart=>exact ⟨0,rfl,Nat.zero_le _,rfl,Below.refl _ _⟩
 obtain ⟨k,rfl,hk,HT,HB⟩:=hrel;by_cases d8:k < rs.length
 .
  have c0:=(HB.o.cell (p:=⟨g,k*2,none⟩) hg).trans (HL.o k d8).1;have c1:=(HB.o.cell (p:=⟨g,k*2+1,none⟩) hg).trans (HL.o k d8).2;have CP:=hid (HP.o k d8 wr HB.o);have HN:=hid (any_take_succ rs (fun r=>aW r c||fold&&aW r (other c)) k d8);obtain ⟨b,hb⟩:=qY ((aW rs[k] c||fold&&aW rs[k] (other c)));rw [hb] at CP;generalize hx:(b8 rs[k].1)=x at c0 CP;generalize hy:(b8 rs[k].2)=y at c1 CP;clear hx hy
  cases b with
  | true =>
   have HA:Hid (rs.any (fun r=>aW r c||fold&&aW r (other c))=true):=List.any_eq_true.2 ⟨rs[k],List.getElem_mem _,hb⟩;clear hb;go_wp2_with (go_at_call 258;refine CP.o.mono ?_;rintro e1 w1 ⟨rfl,c8⟩)
   go_ret;exact ⟨⟨(k:Int),rfl,by rw [nT,HA.o];exact decide_eq_true (by omega)⟩,HB.o.thenG c8⟩
  | false =>
   have G9:Hid ((rs.take (k+1)).any (fun r=>aW r c||fold&&aW r (other c))=false):=by show _=_;rw [HN.o,HT.o,hb];rfl
   clear hb HN;go_wp2_with (go_at_call 258;refine CP.o.mono ?_;rintro e1 w1 ⟨rfl,c8⟩)
   exact ⟨⟨k+1,by go_num,by omega,G9.o,HB.o.thenG c8⟩,by simp [intOf];omega⟩
 have HK:Hid (k=rs.length):=by show _=_;omega
 go_wp2;go_ret;refine ⟨⟨-1,rfl,?_⟩,HB.o⟩;have:=HT.o;rw [HK.o,List.take_length] at this;rw [nT,this];rfl
def Nn (B:Nat) (v:Value) (rs:List Rg) (c:UInt8) (fold:Bool) (gc gf:Nat) (w:World) (hr:mI B w v rs) (hn:rs.length<=1000) (hc:Has w gc 5 #[.int .u8 (b8 c)]) (hf:Has w gf 4 #[.bool fold]) :
 qC 257 #[v,.func (.func 258) #[] #[.pointer (some ⟨gc,0,none⟩),.pointer (some ⟨gf,0,none⟩)]] w fun e w'=>e=.returned (.bool (nT fold rs c))/\qW w w':=by
 have hi:=Xi B v rs c fold gc gf w hr hn hc hf;generalize nT fold rs c=b at hi;clear hr hc hf;go_enter Tryz.func257,Tryz.ntmps257
 go_wp2_with (go_at_call 274;refine hi.mono ?_;rintro e1 w1 ⟨⟨z,rfl,hz⟩,c8⟩)
 go_ret;exact ⟨by rw [<-hz];rfl,c8⟩
abbrev lB (t:TypeId):Prop:=t=242∨t=282∨t=4∨t=281
def Gx (w W:World):Prop:=w.heap.size<=W.heap.size/\∀(j:Nat) (cs:Array Value) (t:TypeId) (q:Nat × Nat),w.heap[j]? = some (Obj.cells cs t q)->lB t->W.heap[j]? = some (Obj.cells cs t q)
def Gx.of_below {w W:World} (h:qW w W):Gx w W :=
 ⟨h.size,fun j _ _ _ ho _=>(h.block j (Array.getElem?_eq_some_iff.1 ho).1).trans ho⟩
def Gx.refl (w:World):Gx w w:=Gx.of_below qB
def Gx.trans {a b c:World} (h:Gx a b) (k:Gx b c):Gx a c:=⟨Nat.le_trans h.1 k.1,fun j cs t q ho hn=>k.2 j cs t q (h.2 j cs t q ho hn) hn⟩
def Gx.of_grown {w w':World} {row:Option Nat} (hg:w.grownBy w' row) (hr:∀k,row=some k->∃cs q,w.heap[k]? = some (Obj.cells cs 249 q)):Gx w w':=by
 refine ⟨hg.size,fun j ds t q ho hn=>?_⟩;refine (hg.block j (Array.getElem?_eq_some_iff.1 ho).1 fun e=>?_).trans ho;obtain ⟨cs,q,h⟩:=hr j e.symm;have e2:=Option.some.inj (ho.symm.trans h);simp only [Obj.cells.injEq] at e2;rw [e2.2.1] at hn;exact absurd hn (by decide)
def Gx.then_below {a b c:World} (h:Gx a b) (k:qW b c):Gx a c:=h.trans (Gx.of_below k)
def Has.gx {w W:World} {g:Nat} {t:TypeId} {cs:Array Value} (h:Has w g t cs) (ht:lB t) (hG:Gx w W):Has W g t cs :=
 hG.2 g _ _ _ h ht
def mI.gx {B:Nat} {w W:World} {v:Value} {rs:List Rg} (h:mI B w v rs) (hG:Gx w W):mI B W v rs:=by
 refine ⟨h.1,?_⟩;rcases h.2 with h1 | ⟨g,c,cur,h1,hB,h3,h4⟩
 . exact .inl h1
 exact .inr ⟨g,c,cur,h1,hB,Has.gx (show Has w g 281 cur from h3) (by decide) hG,h4⟩
def IsFn (w:World) (f:Value) (h:UInt8->Bool):Prop :=
 ∃g lb,f=.func (.func g) #[] lb/\(∀(args:Array Value) (w:World),(callFunc g args).run Tryz.prog w=.ok (.enter g args) w)/\∀(W:World) (c:UInt8),Gx w W->Calls Tryz.prog g (#[.int .u8 (b8 c)]++lb) W fun e W'=>e=.returned (.bool (h c))/\qW W W'
def IsFn.gx {w w':World} {f:Value} {h:UInt8->Bool} (k:IsFn w f h) (hb:Gx w w'):IsFn w' f h:=by
 obtain ⟨g,lb,h1,h2,h3⟩:=k;exact ⟨g,lb,h1,h2,fun W c hW=>h3 W c (hb.trans hW)⟩
def IsFn.stays {w w':World} {f:Value} {h:UInt8->Bool} (k:IsFn w f h) (hb:qW w w'):IsFn w' f h:=k.gx (Gx.of_below hb)
def IsFn.form {w:World} {f:Value} {h:UInt8->Bool} (k:IsFn w f h):∃g lb,f=.func (.func g) #[] lb:=by
 obtain ⟨g,lb,h1,_⟩:=k;exact ⟨g,lb,h1⟩
def IsFn.one {w:World} {f:Value} {h:UInt8->Bool} (k:IsFn w f h):f.oneCell'=true:=by
 obtain ⟨g,lb,rfl,_⟩:=k;rfl
def Eb (c:UInt8) (w:World):qC 252 #[.int .u8 (b8 c)] w fun e w'=>e=.returned (.bool true)/\qW w w':=by
 go_enter Tryz.func252,Tryz.ntmps252
 go_wp2;go_ret;exact ⟨rfl,Below.refl _ _⟩
def oK (w:World):qC 217 #[] w fun e w'=>(∃f,e=.returned f/\IsFn w' f (fun _=>true))/\w=w':=by
 go_enter Tryz.func217,Tryz.ntmps217
 go_wp2;go_ret;exact ⟨⟨_,rfl,252,#[],rfl,enters_of Tryz.func252 (by kernel_rfl) rfl,fun W c _=>Eb c W⟩,rfl⟩
def Fz (c:UInt8) (f:Value) (h:UInt8->Bool) (g:Nat) (w:World) (hf:IsFn w f h) (hg:Has w g 242 #[f]) :
 qC 253 #[.int .u8 (b8 c),.pointer (some ⟨g,0,none⟩)] w fun e w'=>e=.returned (.bool (!(c == 47)&&h c))/\qW w w':=by
 obtain ⟨k,lb,rfl,ek,hk⟩:=hf;have c0:w.cell? ⟨g,0,none⟩=some (.func (.func k) #[] lb):=hg.at_ 0;have ne:=fU c 47;rw [show b8 47=47 from rfl] at ne;have CK:=hid (hk w c (Gx.refl _));generalize h c=r at CK;clear hg hk
 cases h7:c == 47 with
 | true =>
  rw [h7] at ne;simp only [Bool.not_true] at ne;clear h7;go_enter Tryz.func253,Tryz.ntmps253
  go_wp2;go_ret;exact ⟨rfl,Below.refl _ _⟩
 | false =>
  rw [h7] at ne;simp only [Bool.not_false] at ne;clear h7;go_enter Tryz.func253,Tryz.ntmps253
  go_wp2_with (go_at_fn k;refine CK.o.mono ?_;rintro e1 w1 ⟨rfl,c8⟩)
  go_ret;exact ⟨rfl,c8⟩
def mM (f:Value) (h:UInt8->Bool) (w:World) (hf:IsFn w f h) :
 qC 218 #[f] w fun e w'=>(∃f',e=.returned f'/\IsFn w' f' (fun c=>!(c == 47)&&h c))/\qW w w':=by
 have NI:∀(fn:Fn) (first cap:Array Value) (w:World),(Instr.makeFunc fn first cap).run Tryz.prog w=.ok (.func fn first cap) w:=fun _ _ _ _=>rfl
 have HF:=hid hf;obtain ⟨k,lb,LV,_⟩:=hf;subst LV;go_enter Tryz.func218,Tryz.ntmps218
 go_wp2;go_ret;refine ⟨⟨_,rfl,253,_,rfl,enters_of Tryz.func253 (by kernel_rfl) rfl,fun W c hW=>?_⟩,qB.alloc qN _⟩;exact Fz c _ h w.heap.size W ((HF.o.stays (qB.alloc qN _)).gx hW) ((Has.fresh w 242 _).gx (by decide) hW)
def Uf (c:UInt8) (f:Value) (h:UInt8->Bool) (g:Nat) (w:World) (hf:IsFn w f h) (hg:Has w g 242 #[f]) :
 qC 273 #[.int .u8 (b8 c),.pointer (some ⟨g,0,none⟩)] w fun e w'=>e=.returned (.bool (!h c))/\qW w w':=by
 obtain ⟨k,lb,rfl,ek,hk⟩:=hf;have c0:w.cell? ⟨g,0,none⟩=some (.func (.func k) #[] lb):=hg.at_ 0;have CK:=hid (hk w c (Gx.refl _));generalize h c=r at CK;clear hg hk;go_enter Tryz.func273,Tryz.ntmps273
 go_wp2_with (go_at_fn k;refine CK.o.mono ?_;rintro e1 w1 ⟨rfl,c8⟩)
 go_ret;exact ⟨rfl,c8⟩
def Ys (f:Value) (h:UInt8->Bool) (w:World) (hf:IsFn w f h) :
 qC 255 #[f] w fun e w'=>(∃f',e=.returned f'/\IsFn w' f' (fun c=>!h c))/\qW w w':=by
 have NI:∀(fn:Fn) (first cap:Array Value) (w:World),(Instr.makeFunc fn first cap).run Tryz.prog w=.ok (.func fn first cap) w:=fun _ _ _ _=>rfl
 have HF:=hid hf;obtain ⟨k,lb,LV,_⟩:=hf;subst LV;go_enter Tryz.func255,Tryz.ntmps255
 go_wp2;go_ret;refine ⟨⟨_,rfl,273,_,rfl,enters_of Tryz.func273 (by kernel_rfl) rfl,fun W c hW=>?_⟩,qB.alloc qN _⟩;exact Uf c _ h w.heap.size W ((HF.o.stays (qB.alloc qN _)).gx hW) ((Has.fresh w 242 _).gx (by decide) hW)
def Gh (B:Nat) (v:Value) (rs:List Rg) (fold:Bool) (c:UInt8) (gl gf:Nat) (w:World) (hr:mI B w v rs) (hn:rs.length<=1000) (hl:Has w gl 282 #[v]) (hf:Has w gf 4 #[.bool fold]) :
 qC 256 #[.int .u8 (b8 c),.pointer (some ⟨gl,0,none⟩),.pointer (some ⟨gf,0,none⟩)] w fun e w'=>e=.returned (.bool (nT fold rs c))/\qW w w':=by
 have NI:∀(fn:Fn) (first cap:Array Value) (w:World),(Instr.makeFunc fn first cap).run Tryz.prog w=.ok (.func fn first cap) w:=fun _ _ _ _=>rfl
 obtain ⟨W0,o6⟩:=qY (w.alloc (.cells #[.int .u8 (b8 c)] 5));have B0:qW w W0:=o6▸qB.alloc qN _;have c0:W0.cell? ⟨gl,0,none⟩=some v:=(hl.stays B0).at_ 0;have HC:=hid (Nn B v rs c fold w.heap.size gf W0 (hr.stays B0) hn (o6▸Has.fresh _ _ _) (hf.stays B0));have HB:=hid B0;obtain ⟨A,n,cap,rfl⟩:∃A n cap,v=.slice A n cap:=by
  rcases hr.form with ⟨_,h⟩ | ⟨g,cap,h,_⟩
  . exact ⟨_,_,_,h⟩
  exact ⟨_,_,_,h⟩
 generalize nT fold rs c=b at HC;clear hr hn hl hf B0;go_enter Tryz.func256,Tryz.ntmps256
 go_wp2_with (go_at_call 257;refine HC.o.mono ?_;rintro e1 w1 ⟨rfl,c8⟩)
 go_ret;exact ⟨rfl,HB.o.thenG c8⟩
def mO (B:Nat) (v:Value) (rs:List Rg) (fold:Bool) (w:World) (hr:mI B w v rs) (hn:rs.length<=1000) :
 qC 221 #[v,.bool fold] w fun e w'=>(∃f,e=.returned f/\IsFn w' f (nT fold rs))/\qW w w':=by
 have NI:∀(fn:Fn) (first cap:Array Value) (w:World),(Instr.makeFunc fn first cap).run Tryz.prog w=.ok (.func fn first cap) w:=fun _ _ _ _=>rfl
 have HR:=hid hr;have HN:=hid hn;obtain ⟨A,n,cap,rfl⟩:∃A n cap,v=.slice A n cap:=by
  rcases hr.form with ⟨_,h⟩ | ⟨g,cap,h,_⟩
  . exact ⟨_,_,_,h⟩
  exact ⟨_,_,_,h⟩
 clear hr hn;go_enter Tryz.func221,Tryz.ntmps221
 go_wp2;go_ret;have B2:qW w ((w.alloc (.cells #[.slice A n cap] 282)).alloc (.cells #[.bool fold] 4)):=(qB.alloc qN _).alloc (by simp) _;refine ⟨⟨_,rfl,256,_,rfl,enters_of Tryz.func256 (by kernel_rfl) rfl,fun W c hW=>?_⟩,B2⟩;exact Gh B _ rs fold c w.heap.size (w.heap.size+1) W ((HR.o.stays B2).gx hW) HN.o ((Has.more (Has.fresh w 282 _) _).gx (by decide) hW) ((Has.fresh' _ 4 _ (by simp)).gx (by decide) hW)
def wpList_append_run {P:Program} {ops:Array Oper} {rest:List Oper} {o:Oper} {a:Act} {w:World} {Q:Exit->Act->World->Prop} (O6:o.guard=none) (s x:Operand) (t tn:TypeId)
 (ho:o.op=.call { callee:=.builtin .append,args:=#[s,x],argTypes:=#[t,tn] })
 (h:∃v' w',(Builtin.append_ #[t,tn] o.type #[a.eval s,a.eval x]).run P w=.ok v' w'/\wpList P ops Q rest (a.put o.dst v') w'):wpList P ops Q (o :: rest) a w :=
 wpList_plain O6 fun _ hK=>by
  obtain ⟨v',w',hr,h⟩:=h;unfold Oper.wp execOp;simp only [ho,resolve,invoke,builtin,Sem.run_bind,Sem.run_pure,Result.andThen_ok,List.map_toArray,List.map_cons,List.map_nil,hr];exact hK _ _ h
def info_parts {t:TypeId} {z:Option Value} {a b:Nat} (h:(Tryz.prog.info? t).map (fun i=>(i.zero,i.size,i.bytes))=some (z,a,b)):∃i,Tryz.prog.info? t=some i/\i.zero=z/\i.size=a/\i.bytes=b:=by
 cases hq:Tryz.prog.info? t with
 | none=>simp [hq] at h
 | some i=>simp [hq] at h;exact ⟨i,rfl,h.1,h.2.1,h.2.2⟩
def Xn:(Tryz.prog.info? 281).map (fun i=>(i.zero,i.size,i.bytes))=some (some (.agg #[.int .u8 0,.int .u8 0]),2,2):=by kernel_rfl
def pJ {B:Nat} {w:World} {e:TypeId} {s n:Nat} {v:Value} {xs:List Value} (h:w.ownsRow B e s v n xs):∀k,v.ownBlock=some k->B<=k:=by
 intro k hk;rcases h.2 with ⟨rfl,_⟩ | ⟨g,c,cur,rfl,hB,_⟩
 . cases hk
 obtain rfl:=Option.some.inj hk;exact hB
def rP (rs:List Rg) (r:Rg):gR (rs++[r])=gR rs++[.int .u8 (b8 r.1),.int .u8 (b8 r.2)]:=by simp [gR]
def _root_.Go.RowKit.Below.thenG' {B:Nat} {a w w':World} (h:Below B a w) (hB:B<=w.heap.size) (k:qW w w'):Below B a w':=h.trans (k.mono hB)
def ji:(Tryz.prog.info? 249).map (·.size)=some 2:=by kernel_rfl
def eC {w:World} {g:Nat} {a b:Value} (k:Has w g 249 #[a,b]):(loadVar 249 ⟨g,0,none⟩).run Tryz.prog w=.ok (.agg #[a,b]) w :=
 run_loadVar_row (P:=Tryz.prog) w g 249 249 #[a,b] (0,0) _ k Tryz.underlying249 rfl ji
def Gx.put {a w:World} {g:Nat} {cs:Array Value} (h:Gx a w) (k:Has w g 249 cs) (i:Nat) (v:Value):Gx a (w.setCell ⟨g,i,none⟩ v):=by
 refine h.trans ⟨by simp,fun j ds t q ho hn=>?_⟩;by_cases hj:j=g
 .
  subst hj;have e2:=Option.some.inj (ho.symm.trans k);simp only [Obj.cells.injEq] at e2;rw [e2.2.1] at hn;exact absurd hn (by decide)
 exact (Below.heap_setCell w ⟨g,i,none⟩ v j hj).trans ho
def Sj (w:World) (B:Nat) (v:Value) (rs:List Rg) (h:mI B w v rs) (r:Rg) (a:Addr) (h0:w.cell? (a.add 0)=some (.int .u8 (b8 r.1))) (h1:w.cell? (a.add 1)=some (.int .u8 (b8 r.2))) (hn:rs.length<=1000) (hB:B<=w.heap.size) (ty:TypeId) :
 ∃v' w',(Builtin.append_ #[282,282] ty #[v,.slice (some a) 1 1]).run Tryz.prog w=.ok v' w'/\mI B w' v' (rs++[r])/\w.grownBy w' v.ownBlock:=by
 obtain ⟨i0,hi,o7,g8,j5⟩:=info_parts Xn;obtain ⟨v',w',hr,ny,hg,_,_⟩:=run_append_own_at (P:=Tryz.prog) w B 282 ty 281 i0 (.agg #[.int .u8 0,.int .u8 0]) 2 2 Tryz.underlying282 hi o7 g8 j5 rfl (by omega) v rs.length (gR rs) h a 1 1 [.int .u8 (b8 r.1),.int .u8 (b8 r.2)] rfl (fun j u' hj=>by
  match j,hj with
  | 0,hj=>obtain rfl:=Option.some.inj hj;exact h0
  | 1,hj=>obtain rfl:=Option.some.inj hj;exact h1
  | j+2,hj=>simp at hj) (fun x hx=>by simp only [List.mem_cons,List.not_mem_nil,or_false] at hx;rcases hx with rfl | rfl<;>rfl) (by unfold maxLen;omega) (by omega) hB
 refine ⟨v',w',hr,?_,hg⟩;unfold mI;rw [rP,List.length_append];exact ny
def nM (fold:Bool) (x:Option (El × By)) (e:Ending) (w':World):Prop :=
 match x with
 | none=>∃f m r,e=.returned (.tuple #[.agg #[f,.bool m],.string (ba r),.bool false])/\(f=.nilFunc∨∃h,IsFn w' f h)
 | some (el,r)=>∃f,e=.returned (.tuple #[.agg #[f,.bool el.many],.string (ba r),.bool true])/\IsFn w' f (bD fold el)
def clsL (s:By):Option (El × By):=match eY (cA [33] s) [] with
 | none=>none
 | some (rs,r)=>some (.set (pre [33] s) rs,r)
def Ru (s:By) (fold:Bool) (w:World) (hs:s.length<=128) :
 qC 219 #[.string (ba s),.bool fold] w fun e w'=>nM fold (clsL s) e w'/\qW w w':=by
 obtain ⟨t0,DX⟩:∃t,t=cA [33] s:=⟨_,rfl⟩;obtain ⟨neg,qo⟩:=qY (pre [33] s);have uf:t0.length<=128:=by have:=pV [33] s;rw [DX];omega
 have hc:∀W,qC 47 #[.string (ba s),.string ⟨#[33]⟩] W fun e w'=>e=.returned (.tuple #[.string (ba t0),.bool neg])/\W=w':=by
  intro W;have:=iW s [33] W;rw [<-DX,qo] at this;exact this
 have HC:Hid (clsL s=match eY t0 [] with | none=>none | some (rs,r)=>some (.set neg rs,r)):=by subst DX;subst qo;rfl
 generalize clsL s=goal at HC;clear DX qo hs;obtain ⟨W1,p3⟩:=qY (w.alloc (.cells #[.nilFunc,.bool false] 249));have H1:Hid (Has W1 w.heap.size 249 #[.nilFunc,.bool false]):=p3▸Has.fresh _ _ _;have B1:Hid (qW w W1):=p3▸qB.alloc qN _;have S1:Hid (W1.heap.size=w.heap.size+1):=by show _=_;rw [<-p3];simp
 go_enter Tryz.func219,Tryz.ntmps219
 go_wp2_with (go_at_call 47;refine (hc _).mono ?_;rintro e1 w1 ⟨rfl,rfl⟩)
 have S1':=S1.o;go_loopw [0,8] (fun s8 l wr=>∃(t:By) (rs:List Rg) (A:Option Addr) (cap:Nat),s8=.string (ba t)/\l=.slice A rs.length cap/\t.length<=128/\rs.length+t.length<=128/\Hid (eY t0 []=eY t rs)/\Hid (mI (w.heap.size+1) wr (.slice A rs.length cap) rs)/\Hid (Below (w.heap.size+1) W1 wr))
  (fun s8 _ _=>match s8 with | .string x=>x.size | _=>0)
 case atStart=>exact ⟨t0,[],none,0,rfl,rfl,uf,by simp;exact uf,rfl,World.ownsRow_nil _ _ _ _,S1'▸Below.refl _ _⟩
 obtain ⟨t,rs,A,cap,rfl,rfl,hl,un,HT,HS,HB⟩:=hrel;obtain ⟨b,hb⟩:=qY (pre [93] t);have hp:∀W,qC 75 #[.string (ba t),.string ⟨#[93]⟩] W fun e w'=>e=.returned (.bool b)/\W=w':=by
  intro W;have:=fV t [93] W;rw [hb] at this;exact this
 have HE:Hid (eY t0 []=if b then (if rs.length=0 then none else some (rs,t.drop 1)) else match bJ t with | none=>none | some (r,u)=>eY u (rs++[r])):=by
  show _=_;rw [HT.o,Qe,hb];rfl
 have HW:Hid (w.heap.size+1<=wr.heap.size):=by have:=HB.o.size;rw [S1'] at this;exact this
 have HR:Hid (Has wr w.heap.size 249 #[.nilFunc,.bool false]):=H1.o.kept HB.o (Nat.lt_succ_self _);clear HT
 cases b with
 | false =>
  have CS:=hid (Ue t);clear hb;go_wp2_with (go_at_call 75;refine (hp _).mono ?_;rintro e1 w1 ⟨rfl,rfl⟩)
  refine (CS.o _).mono ?_;rintro e2 w2 ⟨⟨lo,hi,r,ok,rfl,vm⟩,a9⟩
  cases ok with
  | false =>
   have j7:Hid (goal=none):=by show _=_;rw [HC.o,HE.o,vm];rfl
   obtain ⟨W3,C8⟩:=qY (w2.alloc (.cells #[.int .u8 (b8 lo),.int .u8 (b8 hi)] 281));have B3:qW w2 W3:=C8▸qB.alloc qN _;have H2:=hid ((HR.o.stays a9).stays B3);have k0:=H2.o.at_ 0;have k1:=H2.o.at_ 1;have f0:=H2.o.free 0;have f1:=H2.o.free 1;have B2:Hid (qW w W3):=B1.o.trans ((HB.o.thenG' HW.o (a9.thenG B3)).mono (by omega));clear vm HE HC a9 B3;go_wp2;refine bodyPost_ret (aJ rfl _ _ _ w.heap.size _ _ _ (eC ((H2.o.put 0 _).put 1 _)) rfl rfl rfl) rfl ⟨?_,(B2.o.setCell qN _).setCell qN _⟩;rw [j7.o];exact ⟨_,_,[],rfl,.inl rfl⟩
  | true =>
   have hrl2:r.length < t.length:=oB (by rw [vm];rfl);have j7:Hid (eY t0 []=eY r (rs++[(lo,hi)])):=by show _=_;rw [HE.o,vm];rfl
   clear vm HE;obtain ⟨W3,C8⟩:=qY (w2.alloc (.cells #[.int .u8 (b8 lo),.int .u8 (b8 hi)] 281));obtain ⟨W4,GA⟩:=qY (W3.alloc (.cells #[.int .u8 (b8 lo),.int .u8 (b8 hi)] 281));have B3:qW w2 W3:=C8▸qB.alloc qN _;have B4:qW W3 W4:=GA▸qB.alloc qN _;have yr:=(a9.thenG B3).thenG B4;have hf:Has W4 W3.heap.size 281 #[.int .u8 (b8 lo),.int .u8 (b8 hi)]:=GA▸Has.fresh _ _ _;have yi:W3.heap.size=w2.heap.size+1:=by rw [<-C8];simp
   obtain ⟨v',w',M8,AE,GB⟩:=Sj W4 (w.heap.size+1) _ rs (HS.o.stays yr) (lo,hi) ⟨W3.heap.size,0,none⟩ (hf.at_ 0) (hf.at_ 1) (by omega) (Nat.le_trans HW.o yr.size) 282;rw [yi] at M8;have mx:=hid M8;have DY:=hid AE;have GC:Hid (Below (w.heap.size+1) W1 w'):=Below.grown (HB.o.trans (yr.mono HW.o)) GB (Nat.le_trans HW.o yr.size) (pJ (HS.o.stays yr));have rm:Has W3 w2.heap.size 281 #[.int .u8 (b8 lo),.int .u8 (b8 hi)]:=C8▸Has.fresh _ _ _;have k0:=rm.at_ 0;have k1:=rm.at_ 1;clear M8 AE GB hf B3 B4 yr a9 rm;go_wp2_with (at_builtin;refine wpList_append_run rfl (.tmp 30) (.tmp 32) 282 282 rfl ⟨v',w',mx.o,?_⟩)
   obtain ⟨A',c',IV⟩:∃A c,v'=.slice A (rs++[(lo,hi)]).length c:=by
    rcases DY.o.form with ⟨h0,h⟩ | ⟨g,cap,h,_⟩
    . exact ⟨none,0,by rw [h,h0];rfl⟩
    exact ⟨_,_,h⟩
   subst IV;refine ⟨⟨r,rs++[(lo,hi)],A',c',rfl,rfl,by omega,by simp;omega,j7.o,DY.o,GC.o⟩,?_⟩;simp [aD];omega
 | true =>
  have j7:Hid (goal=if rs.length=0 then none else some (.set neg rs,t.drop 1)):=by
   show _=_;rw [HC.o,HE.o,if_pos rfl];by_cases h0:rs.length=0
   . rw [if_pos h0,if_pos h0]
   rw [if_neg h0,if_neg h0]
  have y7:1<=t.length:=by have:=bU hb;simpa using this
  have CW:=hid (mO (w.heap.size+1) _ rs fold wr HS.o (by omega));have z:=aD t;have AF:(1:Int)<=(t.length:Int):=by omega
  have zd:=aR t 1;generalize t.drop 1=u at zd j7;clear hb HE HC HS un
  cases neg with
  | false =>
   go_wp2_with (first
    | (go_at_call 75;refine (hp _).mono ?_;rintro e1 w1 ⟨rfl,rfl⟩)
    | (go_at_call 221;refine CW.o.mono ?_;rintro e2 w2 ⟨⟨f,rfl,hf⟩,a9⟩
       have HF:=hid hf;obtain ⟨k2,vw,rfl⟩:=hf.form;have H2:=hid (HR.o.stays a9);have B2:Hid (qW w w2):=B1.o.trans ((HB.o.thenG' HW.o a9).mono (by omega));clear hf a9))
   have CI:Hid (∀W,Gx w2 W->qC 218 #[.func (.func k2) #[] vw] W fun e w'=>(∃f',e=.returned f'/\IsFn w' f' (bD fold (.set false rs)))/\qW W w'):=fun W hW=>mM _ _ W (HF.o.gx hW)
   have z0:Gx w2 w2.drew:=Gx.of_below qB.drew;have HD:=hid (H2.o.drawn 1);have BD:Hid (qW w w2.drew):=B2.o.drew;refine qG (S:=Gx w2) (by kernel_rfl) (z0) (fun hS=>?_);refine qK 0 rfl (by kernel_rfl) ‹_› (fun w a8=>by go_simp;with_reducible rfl) ?_;simp only [Act.put,aB,aA,aC];refine aG 3 ?_
   iterate 5
    refine qT rfl (by kernel_rfl) ‹_› (fun w a8=>by go_simp;with_reducible rfl) ?_;simp only [Act.put,aB,aA,aC,Nat.reduceAdd]
   refine aE ?_;refine qD 1 rfl (by kernel_rfl) fun K hK=>?_
   go_simp;refine (CI.o _ z0).mono ?_;rintro e4 y4 ⟨⟨f4,rfl,ou⟩,x8⟩;have xj:=hid ou;obtain ⟨k4,IW,rfl⟩:=ou.form;have H4:=hid (Has.stays (w:=w2.drew) HD.o x8);have B4:Hid (qW w y4):=BD.o.thenG x8;have g8:=Gx.then_below z0 x8;refine hK.o _ _ g8 (fun hS=>?_);clear hK K hS;refine qK 2 rfl (by kernel_rfl) ‹_› (fun w a8=>by go_simp;with_reducible rfl) ?_;simp only [Act.put,aB,aA,aC];refine qD 8 rfl (by kernel_rfl) fun K hK=>?_
   have k0:=H4.o.at_ 0;have k1:=H4.o.at_ 1;have f0:=H4.o.free 0;have f1:=H4.o.free 1;go_simp;have DZ:=Gx.put (Gx.put g8 H4.o 0 (.func (.func k4) #[] IW)) (H4.o.put 0 (.func (.func k4) #[] IW)) 1 (.bool false);refine hK.o _ _ DZ (fun hS=>?_);clear hK K hS k0 k1 f0 f1;refine aG 9 ?_
   iterate 2
    refine qT rfl (by kernel_rfl) ‹_› (fun w a8=>by go_simp;with_reducible rfl) ?_;simp only [Act.put,aB,aA,aC,Nat.reduceAdd]
   refine aE ?_;refine qM (by kernel_rfl) ?_;go_wp2;refine bodyPost_ret (aJ rfl _ _ _ w.heap.size _ _ _ (eC ((H4.o.put 0 _).put 1 _)) rfl rfl rfl) rfl ⟨?_,(B4.o.setCell qN _).setCell qN _⟩;rw [j7.o];by_cases h0:rs.length=0
   . rw [if_pos h0]
     exact ⟨_,false,u,by simp [h0],.inr ⟨_,xj.o.gx (Gx.put (Gx.put (Gx.refl _) H4.o 0 _) (H4.o.put 0 _) 1 _)⟩⟩
   rw [if_neg h0];exact ⟨_,by simp [h0,El.many,Nat.pos_of_ne_zero],xj.o.gx (Gx.put (Gx.put (Gx.refl _) H4.o 0 _) (H4.o.put 0 _) 1 _)⟩
  | true =>
   go_wp2_with (first
    | (go_at_call 75;refine (hp _).mono ?_;rintro e1 w1 ⟨rfl,rfl⟩)
    | (go_at_call 221;refine CW.o.mono ?_;rintro e2 w2 ⟨⟨f,rfl,hf⟩,a9⟩
       have HF:=hid hf;obtain ⟨k2,vw,rfl⟩:=hf.form;have H2:=hid (HR.o.stays a9);have B2:Hid (qW w w2):=B1.o.trans ((HB.o.thenG' HW.o a9).mono (by omega));clear hf a9)
    | (go_at_call 255;refine (Ys _ _ w2 HF.o).mono ?_;rintro e3 w3 ⟨⟨f3,rfl,rm⟩,i7⟩
       have HF3:=hid rm;obtain ⟨k3,lb3,rfl⟩:=rm.form;have H3:=hid (H2.o.stays i7);have B3:Hid (qW w w3):=B2.o.thenG i7;clear rm i7))
   have CI:Hid (∀W,Gx w3 W->qC 218 #[.func (.func k3) #[] lb3] W fun e w'=>(∃f',e=.returned f'/\IsFn w' f' (bD fold (.set true rs)))/\qW W w'):=fun W hW=>mM _ _ W (HF3.o.gx hW)
   have z0:Gx w3 w3.drew:=Gx.of_below qB.drew;have HD:=hid (H3.o.drawn 1);have BD:Hid (qW w w3.drew):=B3.o.drew;refine qG (S:=Gx w3) (by kernel_rfl) (z0) (fun hS=>?_);refine qK 0 rfl (by kernel_rfl) ‹_› (fun w a8=>by go_simp;with_reducible rfl) ?_;simp only [Act.put,aB,aA,aC];refine aG 3 ?_
   iterate 5
    refine qT rfl (by kernel_rfl) ‹_› (fun w a8=>by go_simp;with_reducible rfl) ?_;simp only [Act.put,aB,aA,aC,Nat.reduceAdd]
   refine aE ?_;refine qD 1 rfl (by kernel_rfl) fun K hK=>?_
   go_simp;refine (CI.o _ z0).mono ?_;rintro e4 y4 ⟨⟨f4,rfl,ou⟩,x8⟩;have xj:=hid ou;obtain ⟨k4,IW,rfl⟩:=ou.form;have H4:=hid (Has.stays (w:=w3.drew) HD.o x8);have B4:Hid (qW w y4):=BD.o.thenG x8;have g8:=Gx.then_below z0 x8;refine hK.o _ _ g8 (fun hS=>?_);clear hK K hS;refine qK 2 rfl (by kernel_rfl) ‹_› (fun w a8=>by go_simp;with_reducible rfl) ?_;simp only [Act.put,aB,aA,aC];refine qD 8 rfl (by kernel_rfl) fun K hK=>?_
   have k0:=H4.o.at_ 0;have k1:=H4.o.at_ 1;have f0:=H4.o.free 0;have f1:=H4.o.free 1;go_simp;have DZ:=Gx.put (Gx.put g8 H4.o 0 (.func (.func k4) #[] IW)) (H4.o.put 0 (.func (.func k4) #[] IW)) 1 (.bool false);refine hK.o _ _ DZ (fun hS=>?_);clear hK K hS k0 k1 f0 f1;refine aG 9 ?_
   iterate 2
    refine qT rfl (by kernel_rfl) ‹_› (fun w a8=>by go_simp;with_reducible rfl) ?_;simp only [Act.put,aB,aA,aC,Nat.reduceAdd]
   refine aE ?_;refine qM (by kernel_rfl) ?_;go_wp2;refine bodyPost_ret (aJ rfl _ _ _ w.heap.size _ _ _ (eC ((H4.o.put 0 _).put 1 _)) rfl rfl rfl) rfl ⟨?_,(B4.o.setCell qN _).setCell qN _⟩;rw [j7.o];by_cases h0:rs.length=0
   . rw [if_pos h0]
     exact ⟨_,false,u,by simp [h0],.inr ⟨_,xj.o.gx (Gx.put (Gx.put (Gx.refl _) H4.o 0 _) (H4.o.put 0 _) 1 _)⟩⟩
   rw [if_neg h0];exact ⟨_,by simp [h0,El.many,Nat.pos_of_ne_zero],xj.o.gx (Gx.put (Gx.put (Gx.refl _) H4.o 0 _) (H4.o.put 0 _) 1 _)⟩
end Go.Proofs.YtahkcemdbfjilaaGreatDoor.Glob
