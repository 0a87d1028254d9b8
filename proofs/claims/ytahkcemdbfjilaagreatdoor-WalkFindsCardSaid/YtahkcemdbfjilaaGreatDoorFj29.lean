/- Texts. Conditions: as said. -/
import Derived.Test.YtahkcemdbfjilaaGreatDoorFj00
import Derived.Test.YtahkcemdbfjilaaGreatDoorFj28
set_option linter.all false
set_option maxRecDepth 100000
set_option maxHeartbeats 32000000
namespace Go.Proofs.YtahkcemdbfjilaaGreatDoor.Sha
open Go.RowKit
def Ip:(Tryz.prog.info? 53).map (fun i=>(i.zero,i.size,i.bytes))=some (some (.int .u32 0),1,4):=by kernel_rfl
def oT (z:Int):∀u∈[Value.int .u32 z],u.oneCell'=true:=by
 intro u hu;rw [List.mem_singleton] at hu;subst hu;rfl
def mC (l:List (BitVec 32)) (t:Nat):List Value:=(List.range t).map fun i=>.int .u32 (u (gG l i))
def tJ (l:List (BitVec 32)) (t:Nat):mC l (t+1)=mC l t++[.int .u32 (u (gG l t))]:=by simp [mC,List.range_succ]
def jz (x:BitVec 32) (w:World):qC 202 #[.int .u32 (u x),.int .i64 7] w fun e w'=>e=.returned (.int .u32 (u (cD x 7)))/\w=w':=kP x 7 (by omega) (by omega) w
def jb (x:BitVec 32) (w:World):qC 202 #[.int .u32 (u x),.int .i64 18] w fun e w'=>e=.returned (.int .u32 (u (cD x 18)))/\w=w':=kP x 18 (by omega) (by omega) w
def fp (x:BitVec 32) (w:World):qC 202 #[.int .u32 (u x),.int .i64 17] w fun e w'=>e=.returned (.int .u32 (u (cD x 17)))/\w=w':=kP x 17 (by omega) (by omega) w
def gz (x:BitVec 32) (w:World):qC 202 #[.int .u32 (u x),.int .i64 19] w fun e w'=>e=.returned (.int .u32 (u (cD x 19)))/\w=w':=kP x 19 (by omega) (by omega) w
def Vl {w:World} {B:Nat} {A:Option Addr} {n c:Nat} {l:List (BitVec 32)} (h:w.ownsRow B 53 1 (.slice A n c) n (mC l n)) (hn:0 < n) :
 ∃g,A=some ⟨g,0,none⟩/\∀i,i < n->w.cell? ⟨g,i,none⟩=some (.int .u32 (u (gG l i))):=by
 have hc:=fun g hg=>h.cells (g:=g) hg
 rcases h.2 with ⟨h1,h2⟩ | ⟨g,c',cs,h1,_⟩
 . omega
 cases h1
 refine ⟨g,rfl,fun i hi=>?_⟩;have:=hc g rfl i (.int .u32 (u (gG l i))) (by simp [mC,hi]);have e:(⟨g,0,none⟩:Addr).add i=⟨g,i,none⟩:=by unfold Addr.add;split<;>simp_all
 rwa [e] at this
def nR {w:World} {a:Addr} {v:Value} (h:w.cell? a=some v):w.drew.cell? a=some v:=h
def Fa (a b x y:BitVec 32):IntKind.u32.wrap (IntKind.u32.wrap (IntKind.u32.wrap (u a+bits BinOp.xor IntKind.u32 (bits BinOp.xor IntKind.u32 (u (cD x 7)) (u (cD x 18))) (u x / 8))+u b)+bits BinOp.xor IntKind.u32 (bits BinOp.xor IntKind.u32 (u (cD y 17)) (u (cD y 19))) (u y / 1024)) =
 u (a+yQ x+b+yX y):=by
 have e1:u x / 8=u (uK x 3):=uA x 3;have e2:u y / 1024=u (uK y 10):=uA y 10;rw [e1,e2];simp only [wrap32,mS,eL];rfl
def Bv {w:World} {B n:Nat} {e:TypeId} {v:Value} {xs:List Value} (h:w.ownsRow B e 1 v n xs):w.drew.ownsRow B e 1 v n xs:=h
def Da (p:List UInt8) (A:Option Addr) (cap bb off:Nat) (w:World) (hn:p.length=64) (hs:Bytes w (.slice A 64 cap) p A cap bb off) :
 qC 201 #[.slice A 64 cap] w fun e w'=>∃v,e=.returned v/\w'.ownsRow w.heap.size 53 1 v 64 (mC (words p 16) 64)/\qW w w':=by
 obtain ⟨i0,hi,o7,g8,j5⟩:=info_parts Ip;go_enter Tryz.func201,Tryz.ntmps201
 go_wp2;have HP:=hid hs;have HN:=hid hn;clear hs hn;go_loopw [3,4] (fun v i wr=>∃(t:Nat) (B:Option Addr) (c:Nat),t<=64/\v=.slice B t c/\i=.int .i64 (t:Int)/\Hid (wr.ownsRow w.heap.size 53 1 (.slice B t c) t (mC (words p 16) t))/\Hid (qW w wr))
  (fun _ i _=>64 - (intOf i).toNat)
 case atStart=>exact ⟨0,none,0,by omega,rfl,rfl,World.ownsRow_nil _ _ _ _,Below.refl _ _⟩
 obtain ⟨t,B,c,ht,rfl,rfl,HO,HB⟩:=hrel;by_cases d8:t < 64
 .
  by_cases h16:t < 16
  .
   go_wp2;go_loopw [5,6] (fun x i w2=>∃k:Nat,k<=4/\i=.int .i64 (k:Int)/\x=.int .u32 (u (hx p t k))/\w2=wr)
    (fun _ i _=>4 - (intOf i).toNat)
   case atStart=>exact ⟨0,by omega,rfl,rfl,rfl⟩
   obtain ⟨k,hk,rfl,rfl,rfl⟩:=hrel;by_cases hk4:k < 4
   .
    obtain ⟨q0,e0,E0⟩:∃q:Nat,4*(t:Int)=(q:Int)/\Hid (4*t=q):=⟨4*t,by omega,rfl⟩;obtain ⟨q1,e1,E1⟩:∃q:Nat,(q0:Int)+(k:Int)=(q:Int)/\Hid (q0+k=q):=⟨q0+k,by omega,rfl⟩;have hq:(q1:Int) < 64:=by have:=E0.o;have:=E1.o;omega
    have hA:=HP.o.src (by rw [HN.o];omega);have hc:=(HP.o.kept HB.o qN).cells q1 (by rw [HN.o];omega);subst hA;have PH:wr.cell? ⟨bb,off+q1,none⟩=some (.int .u8 (b8 (at8 p q1))):=hc;clear hc;go_wp2;go_roundw
    case rel =>
     refine ⟨k+1,by omega,rfl,?_,trivial⟩;have e:at8 p q1=at8 p (4*t+k):=by rw [E0.o,E1.o]
     rw [<-em,<-e,kr]
    case measure=>simp [intOf];omega
   obtain rfl:k=4:=by omega
   have N2:Hid (t+1<=maxLen):=by show _<=_;unfold maxLen;omega
   have N3:Hid ((t+1)*4<=140737488355328):=by show _<=_;omega
   have N4:Hid (∀o,w.heap.size<=(wr.alloc o).heap.size):=by intro o;have:=HB.o.size;simp;omega
   go_wp2_with (at_builtin;refine wpList_append_own _ rfl _ _ 264 rfl w.heap.size 53 i0 (.int .u32 0) 1 4 Tryz.underlying264 hi o7 g8 j5 rfl (by omega) _ _ _ rfl (HO.o.alloc _) ⟨wr.heap.size,0,none⟩ 1 1 [Value.int .u32 (u (hx p t 4))] rfl rfl (cell_one_new _ _ _) (oT _) N2.o N3.o (N4.o _) ?_;intro v3 w3 f9 i8 _)
   have B8:Hid (qW w w3) :=
    ((HB.o.alloc HB.o.size _).grown i8 (N4.o _) (fun g hk=>(HO.o.lt g hk).1))
   obtain ⟨g3,c3,rfl⟩:=ownsRow_succ f9;have ug:Hid (w3.ownsRow w.heap.size 53 1 (.slice (some ⟨g3,0,none⟩) (t+1) c3) (t+1) (mC (words p 16) (t+1))):=by
    rw [tJ,Ht _ _ h16,Jk _ _ h16];exact f9
   clear f9 i8;go_wp2;go_roundw
   case rel=>exact ⟨t+1,_,_,by omega,rfl,rfl,ug,B8⟩
   case measure=>simp [intOf];omega
  obtain ⟨g,rfl,d9⟩:=Vl HO.o (by omega);obtain ⟨a2,e2,E2⟩:∃q:Nat,(t:Int) - 2=(q:Int)/\Hid (t - 2=q):=⟨t - 2,by omega,rfl⟩;obtain ⟨a7,e7,E7⟩:∃q:Nat,(t:Int) - 7=(q:Int)/\Hid (t - 7=q):=⟨t - 7,by omega,rfl⟩;obtain ⟨YK,e15,E15⟩:∃q:Nat,(t:Int) - 15=(q:Int)/\Hid (t - 15=q):=⟨t - 15,by omega,rfl⟩;obtain ⟨MY,e16,E16⟩:∃q:Nat,(t:Int) - 16=(q:Int)/\Hid (t - 16=q):=⟨t - 16,by omega,rfl⟩;have c2:=d9 a2 (by omega);have c7:=d9 a7 (by omega);have c15:=d9 YK (by omega);have YL:=d9 MY (by omega);have b2:(a2:Int) < (t:Int):=by omega
  have b7:(a7:Int) < (t:Int):=by omega
  have b15:(YK:Int) < (t:Int):=by omega
  have b16:(MY:Int) < (t:Int):=by omega
  clear d9;obtain ⟨x,HX⟩:=qX (gG (words p 16) YK);obtain ⟨y,HY⟩:=qX (gG (words p 16) a2);obtain ⟨p16,H16⟩:=qX (gG (words p 16) MY);obtain ⟨p7,H7⟩:=qX (gG (words p 16) a7);rw [HX.o] at c15;rw [HY.o] at c2;rw [H16.o] at YL;rw [H7.o] at c7;have M6:Hid (gG (words p 16) t=p16+yQ x+p7+yX y):=by
   show _=_
   rw [Ew _ _ (by omega),E16.o,E15.o,E7.o,E2.o,HX.o,HY.o,H16.o,H7.o]
  go_wp2;go_region
  have TX:=nR YL;have k7:=nR c7;have HOd:Hid (wr.drew.ownsRow w.heap.size 53 1 (.slice (some ⟨g,0,none⟩) t c) t (mC (words p 16) t)):=Bv HO.o;have HBd:Hid (qW w wr.drew):=HB.o.drew;clear c2 c15 YL c7 HO HB;generalize wr.drew=w2 at *;go_wp2_with fail
  refine (jz _ _).mono ?_;rintro ee ww ⟨rfl,rfl⟩;go_wp2_with fail
  refine (jb _ _).mono ?_;rintro ee ww ⟨rfl,rfl⟩;go_wp2_with fail
  refine (fp _ _).mono ?_;rintro ee ww ⟨rfl,rfl⟩;go_wp2_with fail
  refine (gz _ _).mono ?_;rintro ee ww ⟨rfl,rfl⟩;go_wp2;have hw16:IntKind.i64.wrap (MY:Int)=(MY:Int):=aM _ (by omega) (by omega);have yj:IntKind.i64.wrap (a7:Int)=(a7:Int):=aM _ (by omega) (by omega);have hz16:(0:Int)<=(MY:Int):=by omega
  have hz7:(0:Int)<=(a7:Int):=by omega
  have TY:Hid (w2.drew.ownsRow w.heap.size 53 1 (.slice (some ⟨g,0,none⟩) t c) t (mC (words p 16) t)):=Bv HOd.o;have QT:Hid (qW w w2.drew):=HBd.o.drew;have N2:Hid (t+1<=maxLen):=by show _<=_;unfold maxLen;omega
  have N3:Hid ((t+1)*4<=140737488355328):=by show _<=_;omega
  have N4:Hid (∀o,w.heap.size<=(w2.drew.alloc o).heap.size):=by intro o;have:=QT.o.size;simp at this ⊢;omega
  clear HOd HBd;refine qG (S:=fun _=>True) (by kernel_rfl) trivial (fun hS=>?_);have TX:=nR TX;have k7:=nR k7;generalize w2.drew=w3 at *;clear hS;refine wpAnyH_take (i:=0) (v:=?_) (by simp only [fD,fC];rfl) (by kernel_rfl) (by kernel_rfl) (by kernel_rfl) (fun _ _ _ h=>h) (Or.inl ⟨by rfl,?_⟩) trivial ?_;rotate_left 1
  . intro w a8
    go_simp
    with_reducible rfl
  simp only [Act.put,aB,aA,aC];refine wpAnyH_take (i:=1) (v:=?_) (by simp only [fD,fC,fP];rfl) (by kernel_rfl) (by kernel_rfl) (by kernel_rfl) (fun _ _ _ h=>h) (Or.inl ⟨by rfl,?_⟩) trivial ?_;rotate_left 1
  . intro w a8
    go_simp
    with_reducible rfl
  simp only [Act.put,aB,aA,aC];refine wpAnyH_take (i:=2) (v:=?_) (by simp only [fD,fC,fP];rfl) (by kernel_rfl) (by kernel_rfl) (by kernel_rfl) (fun _ _ _ h=>h) (Or.inl ⟨by rfl,?_⟩) trivial ?_;rotate_left 1
  . intro w a8
    go_simp
    with_reducible rfl
  simp only [Act.put,aB,aA,aC];refine wpAnyH_take (i:=3) (v:=?_) (by simp only [fD,fC,fP];rfl) (by kernel_rfl) (by kernel_rfl) (by kernel_rfl) (fun _ _ _ h=>h) (Or.inl ⟨by rfl,?_⟩) trivial ?_;rotate_left 1
  . intro w a8
    go_simp
    with_reducible rfl
  simp only [Act.put,aB,aA,aC];refine wpAnyH_take (i:=4) (v:=?_) (by simp only [fD,fC,fP];rfl) (by kernel_rfl) (by kernel_rfl) (by kernel_rfl) (fun _ _ _ h=>h) (Or.inl ⟨by rfl,?_⟩) trivial ?_;rotate_left 1
  . intro w a8
    go_simp
    with_reducible rfl
  simp only [Act.put,aB,aA,aC];refine wpAnyH_take (i:=6) (v:=?_) (by simp only [fD,fC,fP];rfl) (by kernel_rfl) (by kernel_rfl) (by kernel_rfl) (fun _ _ _ h=>h) (Or.inl ⟨by rfl,?_⟩) trivial ?_;rotate_left 1
  . intro w a8
    go_simp
    with_reducible rfl
  simp only [Act.put,aB,aA,aC];refine wpAnyH_take (i:=8) (v:=?_) (by simp only [fD,fC,fP];rfl) (by kernel_rfl) (by kernel_rfl) (by kernel_rfl) (fun _ _ _ h=>h) (Or.inl ⟨by rfl,?_⟩) trivial ?_;rotate_left 1
  . intro w a8
    go_simp
    with_reducible rfl
  simp only [Act.put,aB,aA,aC];refine wpAnyH_take (i:=9) (v:=?_) (by simp only [fD,fC,fP];rfl) (by kernel_rfl) (by kernel_rfl) (by kernel_rfl) (fun _ _ _ h=>h) (Or.inl ⟨by rfl,?_⟩) trivial ?_;rotate_left 1
  . intro w a8
    go_simp
    with_reducible rfl
  simp only [Act.put,aB,aA,aC];refine wpAnyH_take (i:=10) (v:=?_) (by simp only [fD,fC,fP];rfl) (by kernel_rfl) (by kernel_rfl) (by kernel_rfl) (fun _ _ _ h=>h) (Or.inl ⟨by rfl,?_⟩) trivial ?_;rotate_left 1
  . intro w a8
    go_simp
    with_reducible rfl
  simp only [Act.put,aB,aA,aC];refine wpAnyH_take (i:=11) (v:=?_) (by simp only [fD,fC,fP];rfl) (by kernel_rfl) (by kernel_rfl) (by kernel_rfl) (fun _ _ _ h=>h) (Or.inl ⟨by rfl,?_⟩) trivial ?_;rotate_left 1
  . intro w a8
    go_simp
    with_reducible rfl
  simp only [Act.put,aB,aA,aC];refine wpAnyH_take (i:=14) (v:=?_) (by simp only [fD,fC,fP];rfl) (by kernel_rfl) (by kernel_rfl) (by kernel_rfl) (fun _ _ _ h=>h) (Or.inl ⟨by rfl,?_⟩) trivial ?_;rotate_left 1
  . intro w a8
    go_simp
    with_reducible rfl
  simp only [Act.put,aB,aA,aC];refine wpAnyH_ready (rs:=[5,12]) (by kernel_rfl) (by simp) ?_;refine (AllReadyH.cons (by simp only [fD,fC,fP];rfl) (fun K hK=>?_) (AllReadyH.cons (by simp only [fD,fC,fP];rfl) (fun K hK=>?_) AllReadyH.nil))
  .
   go_simp;refine hK.o _ _ trivial (fun hS=>?_);clear hK K hS;refine wpAnyH_take (i:=7) (v:=?_) (by simp only [fD,fC,fP];rfl) (by kernel_rfl) (by kernel_rfl) (by kernel_rfl) (fun _ _ _ h=>h) (Or.inl ⟨by rfl,?_⟩) trivial ?_;rotate_left 1
   . intro w a8
     go_simp
     with_reducible rfl
   simp only [Act.put,aB,aA,aC];refine wpAnyH_ready (rs:=[12]) (by kernel_rfl) (by simp) ?_;refine (AllReadyH.cons (by simp only [fD,fC,fP];rfl) (fun K hK=>?_) AllReadyH.nil);go_simp;refine hK.o _ _ trivial (fun hS=>?_);clear hK K hS;refine wpAnyH_take (i:=13) (v:=?_) (by simp only [fD,fC,fP];rfl) (by kernel_rfl) (by kernel_rfl) (by kernel_rfl) (fun _ _ _ h=>h) (Or.inl ⟨by rfl,?_⟩) trivial ?_;rotate_left 1
   . intro w a8
     go_simp
     with_reducible rfl
   simp only [Act.put,aB,aA,aC];refine wpAnyH_take (i:=15) (v:=?_) (by simp only [fD,fC,fP];rfl) (by kernel_rfl) (by kernel_rfl) (by kernel_rfl) (fun _ _ _ h=>h) (Or.inl ⟨by rfl,?_⟩) trivial ?_;rotate_left 1
   . intro w a8
     go_simp
     with_reducible rfl
   simp only [Act.put,aB,aA,aC];clear hw16 yj hz16 hz7 TX k7;refine wpAnyH_ready (rs:=[16]) (by kernel_rfl) (by simp) ?_;refine (AllReadyH.cons (by simp only [fD,fC,fP];rfl) (fun K hK=>?_) AllReadyH.nil);go_simp;refine hK.o _ _ trivial (fun hS=>?_);clear hK K hS;refine wpAnyH_ready (rs:=[17]) (by kernel_rfl) (by simp) ?_;refine (AllReadyH.cons (by simp only [fD,fC,fP];rfl) (fun K hK=>?_) AllReadyH.nil);rw [if_pos (by rfl)];refine wp_append_own _ _ _ 264 rfl w.heap.size 53 i0 (.int .u32 0) 1 4 Tryz.underlying264 hi o7 g8 j5 rfl (by omega) _ _ _ rfl (TY.o.alloc _) ⟨w3.heap.size,0,none⟩ 1 1 [_] rfl rfl (cell_one_new _ _ _) (oT _) N2.o N3.o (N4.o _) ?_;intro v4 w4 f9 i8 _;rw [Fa,<-M6.o,<-tJ] at f9;have H8:Hid (qW w w4):=(QT.o.alloc QT.o.size _).grown i8 (N4.o _) (fun g hk=>(TY.o.lt g hk).1);obtain ⟨g5,c5,rfl⟩:=ownsRow_succ f9;have KV:=hid f9;clear f9 i8;refine hK.o _ _ trivial (fun hS=>?_);clear hK K hS;simp only [Act.put,aB,aA,aC];refine wpAnyH_take (i:=18) (v:=?_) (by simp only [fD,fC,fP];rfl) (by kernel_rfl) (by kernel_rfl) (by kernel_rfl) (fun _ _ _ h=>h) (Or.inl ⟨by rfl,?_⟩) trivial ?_;rotate_left 1
   . intro w a8
     go_simp
     with_reducible rfl
   simp only [Act.put,aB,aA,aC];refine qM (by kernel_rfl) ?_;go_wp2;go_roundw
   case rel=>exact ⟨t+1,_,_,by omega,rfl,rfl,KV,H8⟩
   case measure=>simp [intOf];omega
  go_simp;refine hK.o _ _ trivial (fun hS=>?_);clear hK K hS;refine wpAnyH_ready (rs:=[5]) (by kernel_rfl) (by simp) ?_;refine (AllReadyH.cons (by simp only [fD,fC,fP];rfl) (fun K hK=>?_) AllReadyH.nil);go_simp;refine hK.o _ _ trivial (fun hS=>?_);clear hK K hS;refine wpAnyH_take (i:=7) (v:=?_) (by simp only [fD,fC,fP];rfl) (by kernel_rfl) (by kernel_rfl) (by kernel_rfl) (fun _ _ _ h=>h) (Or.inl ⟨by rfl,?_⟩) trivial ?_;rotate_left 1
  . intro w a8
    go_simp
    with_reducible rfl
  simp only [Act.put,aB,aA,aC];refine wpAnyH_take (i:=13) (v:=?_) (by simp only [fD,fC,fP];rfl) (by kernel_rfl) (by kernel_rfl) (by kernel_rfl) (fun _ _ _ h=>h) (Or.inl ⟨by rfl,?_⟩) trivial ?_;rotate_left 1
  . intro w a8
    go_simp
    with_reducible rfl
  simp only [Act.put,aB,aA,aC];refine wpAnyH_take (i:=15) (v:=?_) (by simp only [fD,fC,fP];rfl) (by kernel_rfl) (by kernel_rfl) (by kernel_rfl) (fun _ _ _ h=>h) (Or.inl ⟨by rfl,?_⟩) trivial ?_;rotate_left 1
  . intro w a8
    go_simp
    with_reducible rfl
  simp only [Act.put,aB,aA,aC];clear hw16 yj hz16 hz7 TX k7;refine wpAnyH_ready (rs:=[16]) (by kernel_rfl) (by simp) ?_;refine (AllReadyH.cons (by simp only [fD,fC,fP];rfl) (fun K hK=>?_) AllReadyH.nil);go_simp;refine hK.o _ _ trivial (fun hS=>?_);clear hK K hS;refine wpAnyH_ready (rs:=[17]) (by kernel_rfl) (by simp) ?_;refine (AllReadyH.cons (by simp only [fD,fC,fP];rfl) (fun K hK=>?_) AllReadyH.nil);rw [if_pos (by rfl)];refine wp_append_own _ _ _ 264 rfl w.heap.size 53 i0 (.int .u32 0) 1 4 Tryz.underlying264 hi o7 g8 j5 rfl (by omega) _ _ _ rfl (TY.o.alloc _) ⟨w3.heap.size,0,none⟩ 1 1 [_] rfl rfl (cell_one_new _ _ _) (oT _) N2.o N3.o (N4.o _) ?_;intro v4 w4 f9 i8 _;rw [Fa,<-M6.o,<-tJ] at f9;have H8:Hid (qW w w4):=(QT.o.alloc QT.o.size _).grown i8 (N4.o _) (fun g hk=>(TY.o.lt g hk).1);obtain ⟨g5,c5,rfl⟩:=ownsRow_succ f9;have KV:=hid f9;clear f9 i8;refine hK.o _ _ trivial (fun hS=>?_);clear hK K hS;simp only [Act.put,aB,aA,aC];refine wpAnyH_take (i:=18) (v:=?_) (by simp only [fD,fC,fP];rfl) (by kernel_rfl) (by kernel_rfl) (by kernel_rfl) (fun _ _ _ h=>h) (Or.inl ⟨by rfl,?_⟩) trivial ?_;rotate_left 1
  . intro w a8
    go_simp
    with_reducible rfl
  simp only [Act.put,aB,aA,aC];refine qM (by kernel_rfl) ?_;go_wp2;go_roundw
  case rel=>exact ⟨t+1,_,_,by omega,rfl,rfl,KV,H8⟩
  case measure=>simp [intOf];omega
 obtain rfl:t=64:=by omega
 go_wp2;go_ret;exact ⟨_,rfl,HO.o,HB.o⟩
def blk (P:List UInt8) (k:Nat):List UInt8:=(P.drop (64*k)).take 64
def kV (P:List UInt8):Nat->List (BitVec 32)
 | 0=>jT
 | k+1=>jN (kV P k) (blk P k)
def Ex (P:List UInt8) (k:Nat):(kV P k).length=8:=by
 cases k with
 | zero=>rfl
 | succ k=>exact vF _ _
def yH (P:List UInt8) (k:Nat) (h:64*(k+1)<=P.length):(blk P k).length=64:=by simp [blk];omega
def Cx (l c:List UInt8) (h:l.length=c.length):splice l 0 c=c:=by
 unfold splice;simp [<-h]
def Fh (P:List UInt8) (k:Nat):64*k<=P.length->(feed jF (P.take (64*k))).ws=kV P k/\(feed jF (P.take (64*k))).n=64*k/\(feed jF (P.take (64*k))).ps.length=64:=by
 induction k with
 | zero=>intro _;exact ⟨by simp [feed,jF,kV],by simp [feed,jF],by simp [feed,jF]⟩
 | succ k ih =>
  intro h;obtain ⟨h1,h2,h3⟩:=ih (by omega);have hb:=yH P k h;have e:P.take (64*(k+1))=P.take (64*k)++blk P k:=by
   rw [blk,show 64*(k+1)=64*k+64 by omega,List.take_add]
  have hm:(feed jF (P.take (64*k))).n % 64=0:=by rw [h2];omega
  have hf:=zT (blk P k) (feed jF (P.take (64*k))) h3 (by omega) (by omega);rw [e,lT,hf,hm,Cx _ _ (by rw [h3,hb]),h1,h2,hb];exact ⟨rfl,by show 64*k+64=64*(k+1);omega,by first | exact hb | rfl⟩
def Ug (n:Nat):(n+(padL n).length) % 64=0:=by simp [padL,cQ,bW];omega
def Mr (xs:List UInt8) (m:Nat) (h:(xs++padL xs.length).length=64*m):lE xs=jM (kV (xs++padL xs.length) m) 8:=by
 have hn:(feed jF xs).n=xs.length:=by rw [Bz];show 0+_=_;omega
 unfold lE Pq;rw [hn,<-lT];have:=(Fh (xs++padL xs.length) m (by omega)).1;rw [List.take_of_length_le (by omega)] at this;rw [this]
def kB (ws:List (BitVec 32)):Nat->List UInt8
 | 0=>List.replicate 32 0
 | k+1=>(kB ws k).set k (byteOf (at32 ws (k / 4)) (24 - 8*(k % 4)))
def eP (ws:List (BitVec 32)) (k:Nat):(kB ws k).length=32:=by
 induction k with
 | zero=>simp [kB]
 | succ k ih=>rw [kB,List.length_set,ih]
def kF (ws:List (BitVec 32)) (k:Nat):kB ws (4*k)=jM ws k:=by
 induction k with
 | zero=>rfl
 | succ k ih =>
  rw [show 4*(k+1)=4*k+1+1+1+1 by omega];simp only [kB,jM,ih];rw [show 4*k / 4=k by omega,show (4*k+1) / 4=k by omega,show (4*k+1+1) / 4=k by omega,show (4*k+1+1+1) / 4=k by omega,
   show 4*k % 4=0 by omega,show (4*k+1) % 4=1 by omega,show (4*k+1+1) % 4=2 by omega,show (4*k+1+1+1) % 4=3 by omega]
def iV (l:List (BitVec 32)):Nat->List (BitVec 32)
 | 0=>l
 | j+1=>(iV l j).set (7 - j) (at32 (iV l j) (6 - j))
def Oo (l:List (BitVec 32)) (j:Nat):(iV l j).length=l.length:=by
 induction j with
 | zero=>rfl
 | succ j ih=>rw [iV,List.length_set,ih]
def jG (s:S8):List (BitVec 32):=[s.a,s.b,s.c,s.d,s.e,s.f,s.g,s.h]
def zZ (s:S8):iV (jG s) 7=[s.a,s.a,s.b,s.c,s.d,s.e,s.f,s.g]:=rfl
def Kt (s:S8) (kk ww:BitVec 32):((iV (jG s) 7).set 4 (s.d+sx s kk ww)).set 0 (sx s kk ww+sy s)=jG (xG s kk ww):=rfl
def eI (l v:List (BitVec 32)):Nat->List (BitVec 32)
 | 0=>l
 | i+1=>(eI l v i).set i (at32 (eI l v i) i+at32 v i)
def Dd (l v:List (BitVec 32)) (i:Nat):(eI l v i).length=l.length:=by
 induction i with
 | zero=>rfl
 | succ i ih=>rw [eI,List.length_set,ih]
def lA (l:List (BitVec 32)):S8:=⟨at32 l 0,at32 l 1,at32 l 2,at32 l 3,at32 l 4,at32 l 5,at32 l 6,at32 l 7⟩
def Lm (l:List (BitVec 32)) (hl:l.length=8) (R:S8):eI l (jG R) 8=vL l R:=by
 match l,hl with
 | [a,b,c,d,e,f,g,h],_=>simp [eI,jG,vL,at32]
def Mz (l:List (BitVec 32)) (hl:l.length=8) (p:List UInt8):eI l (jG (aV (words p 16) (lA l) 64)) 8=jN l p:=by
 have e:jN l p=vL l (aV (words p 16) (lA l) 64):=by unfold jN lA;rfl
 rw [e];generalize aV (words p 16) (lA l) 64=R;clear e;exact Lm l hl R
def copied (l:List (BitVec 32)):Nat->List (BitVec 32)
 | 0=>List.replicate 8 0
 | i+1=>(copied l i).set i (at32 l i)
def Jq (l:List (BitVec 32)) (i:Nat):(copied l i).length=8:=by
 induction i with
 | zero=>simp [copied]
 | succ i ih=>rw [copied,List.length_set,ih]
def Iu (l:List (BitVec 32)):copied l 8=jG (lA l):=rfl
end Go.Proofs.YtahkcemdbfjilaaGreatDoor.Sha
namespace Go.Proofs.YtahkcemdbfjilaaGreatDoor
open Go.RowKit
def dP:Nat:=18446744073709551616
def wrapM (x:Nat):IntKind.u64.wrap (x:Int)=((x % dP:Nat):Int):=by
 simp [IntKind.wrap,IntKind.signed,IntKind.bits,dP]
def timesN (hi lo x:Nat):Nat × Nat:=((lo*x / dP+hi*x % dP) % dP,lo*x % dP)
def iG (hi lo n b:Nat):Bool:=decide (n*2 ^ b % dP < hi)||(decide (hi=n*2 ^ b % dP)&&decide (0 < lo))
def Pc (x y:Nat) (hx:x < dP) (hy:y < dP) (w:World):qC 269 #[.int .u64 (x:Int),.int .u64 (y:Int)] w fun e w'=>e=.returned (.tuple #[.int .u64 ((x*y / dP:Nat):Int),.int .u64 ((x*y % dP:Nat):Int)])/\w=w' :=
 (Tryz.bits_Mul64 x y hx hy w).mono fun _ _ ⟨a,b⟩=>⟨a,b.symm⟩
def sE (hi lo x:Nat) (_h1:hi < dP) (h2:lo < dP) (h3:x < dP) (w:World) :
 qC 235 #[.int .u64 (hi:Int),.int .u64 (lo:Int),.int .u64 (x:Int)] w fun e w'=>e=.returned (.tuple #[.int .u64 ((timesN hi lo x).1:Int),.int .u64 ((timesN hi lo x).2:Int)])/\w=w':=by
 obtain ⟨q,HQ⟩:=qX (lo*x / dP);obtain ⟨r,HR⟩:=qX (lo*x % dP);have HC:Hid (∀W,qC 269 #[.int .u64 (lo:Int),.int .u64 (x:Int)] W fun e w'=>e=.returned (.tuple #[.int .u64 (q:Int),.int .u64 (r:Int)])/\W=w'):=by
  intro W;rw [<-HQ.o,<-HR.o];exact Pc lo x h2 h3 W
 obtain ⟨m,HM⟩:=qX (hi*x % dP);obtain ⟨t,HT⟩:=qX ((q+m) % dP);have HV:Hid (timesN hi lo x=(t,r)):=by show _=_;rw [timesN,HQ.o,HR.o,HM.o,HT.o]
 have w1:IntKind.u64.wrap ((hi:Int)*(x:Int))=(m:Int):=by rw [<-HM.o,<-wrapM];congr 1
 have w2:IntKind.u64.wrap ((q:Int)+(m:Int))=(t:Int):=by rw [<-HT.o,<-wrapM];congr 1
 clear h2 h3;go_enter Tryz.func235,Tryz.ntmps235
 go_wp2_with (go_at_call 269;refine (HC.o _).mono ?_;rintro e1 w1 ⟨rfl,rfl⟩)
 go_ret2;exact ⟨by rw [HV.o];rfl,rfl⟩
def eK (hi lo x:Nat):(timesN hi lo x).1 < dP/\(timesN hi lo x).2 < dP:=⟨Nat.mod_lt _ (by decide),Nat.mod_lt _ (by decide)⟩
def zE (hi lo n b:Nat) (h4:b < 64) (w:World) :
 qC 236 #[.int .u64 (hi:Int),.int .u64 (lo:Int),.int .u64 (n:Int),.int .i64 (b:Int)] w fun e w'=>e=.returned (.bool (iG hi lo n b))/\w=w':=by
 obtain ⟨z,HZ⟩:=qX (n*2 ^ b % dP);have w1:IntKind.u64.wrap ((n:Int)*2 ^ b)=(z:Int):=by rw [<-HZ.o,<-wrapM];congr 1
 have HV:Hid (iG hi lo n b=(decide (z < hi)||(decide (hi=z)&&decide (0 < lo)))):=by show _=_;rw [iG,HZ.o]
 rcases Nat.lt_trichotomy z hi with c | c | c
 .
  have t1:decide (z < hi)=true:=by simp [c]
  have xp:Hid (iG hi lo n b=true):=by show _=_;rw [HV.o];simp [c]
  clear HV c;go_enter Tryz.func236,Tryz.ntmps236
  go_wp2;go_ret;exact ⟨aF xp.o.symm,rfl⟩
 .
  subst c;by_cases hl:0 < lo
  .
   have t1:(0:Int) < (lo:Int):=by omega
   have xp:Hid (iG z lo n b=true):=by show _=_;rw [HV.o];simp [hl]
   clear HV;go_enter Tryz.func236,Tryz.ntmps236
   go_wp2;go_ret;exact ⟨aF (by rw [xp.o]),rfl⟩
  have t1:¬(0:Int) < (lo:Int):=by omega
  have xp:Hid (iG z lo n b=false):=by show _=_;rw [HV.o];simp;omega
  clear HV;go_enter Tryz.func236,Tryz.ntmps236
  go_wp2;go_ret;exact ⟨aF (by rw [xp.o]),rfl⟩
 have t1:decide (z < hi)=false:=by simp;omega
 have t2:((hi:Int) == (z:Int))=false:=by simp;omega
 have xp:Hid (iG hi lo n b=false):=by show _=_;rw [HV.o];simp;omega
 clear HV c;go_enter Tryz.func236,Tryz.ntmps236
 go_wp2;go_ret;exact ⟨aF xp.o.symm,rfl⟩
def Hc {a b:Int} (h:a=b):Ending.returned (.int .u32 a)=.returned (.int .u32 b):=by rw [h]
def Du (p r b:Nat):Nat:=let x:=(r+2 ^ b) % dP;let t:=timesN 0 x x;if iG t.1 t.2 p 0 then r else x
def oM (p:Nat):Nat->Nat
 | 0=>0
 | k+1=>Du p (oM p k) (36 - k)
def Jz (p:Nat) (_hp:p < 1000) (w:World):qC 199 #[.int .u64 (p:Int)] w fun e w'=>e=.returned (.int .u32 ((oM p 37 % 4294967296:Nat):Int))/\w=w':=by
 go_enter Tryz.func199,Tryz.ntmps199
 go_wp2;go_loopw [3,4] (fun v i wr=>∃(k r:Nat) (q:Int),k<=37/\v=.int .u64 (r:Int)/\i=.int .i64 q/\Hid (q=36 - (k:Int))/\Hid (r=oM p k)/\r < dP/\w=wr) (fun _ i _=>(intOf i+1).toNat)
 case atStart=>exact ⟨0,0,36,by omega,rfl,rfl,rfl,rfl,by decide,rfl⟩
 obtain ⟨k,r,q,hk,rfl,rfl,HQ,HR,hr,rfl⟩:=hrel;by_cases d8:k < 37
 .
  obtain ⟨b,rfl⟩:∃b:Nat,q=(b:Int):=⟨36 - k,by have:=HQ.o;omega⟩;have P5:(0:Int)<=(b:Int):=by omega
  have c8:(b:Int)<=36:=by have:=HQ.o;omega
  obtain ⟨x,HX⟩:=qX ((r+2 ^ b) % dP);have hx:x < dP:=by rw [<-HX.o];exact Nat.mod_lt _ (by decide)
  obtain ⟨e,HE⟩:∃e:Nat,Hid (2 ^ b=e):=⟨_,rfl⟩;have he:e < dP:=by rw [<-HE.o];exact Nat.lt_of_le_of_lt (Nat.pow_le_pow_right (by omega) (show b<=36 by omega)) (by decide)
  have w1:IntKind.u64.wrap (2 ^ b)=(e:Int):=by
   have:=wrapM e;rw [Nat.mod_eq_of_lt he,<-HE.o] at this;rw [<-HE.o,<-this];congr 1
  have w2:IntKind.u64.wrap ((r:Int)+(e:Int))=(x:Int):=by rw [<-HX.o,HE.o,<-wrapM];congr 1
  obtain ⟨h,l,HT⟩:∃h l,Hid (timesN 0 x x=(h,l)):=⟨_,_,rfl⟩;obtain ⟨v,HA⟩:=qX (iG h l p 0);have C1:Hid (∀W,qC 235 #[.int .u64 0,.int .u64 (x:Int),.int .u64 (x:Int)] W fun e w'=>e=.returned (.tuple #[.int .u64 (h:Int),.int .u64 (l:Int)])/\W=w'):=by
   intro W;have:=sE 0 x x (by decide) hx hx W;rw [HT.o] at this;exact this
  have C2:Hid (∀W,qC 236 #[.int .u64 (h:Int),.int .u64 (l:Int),.int .u64 (p:Int),.int .i64 0] W fun e w'=>e=.returned (.bool v)/\W=w'):=by
   intro W;have:=zE h l p 0 (by omega) W;rw [HA.o] at this;exact this
  have HS:Hid (oM p (k+1)=if v then r else x):=by
   have hq:=HQ.o;show Du p (oM p k) (36 - k)=_
   rw [<-HR.o,show 36 - k=b by omega,Du,HX.o];simp only [HT.o,HA.o]
  clear he
  cases v with
  | true =>
   have C6:Hid (r=oM p (k+1)):=by show _=_;rw [HS.o];rfl
   go_wp2_with fail
   refine (C1.o _).mono ?_;rintro e1 w1 ⟨rfl,rfl⟩;go_wp2_with fail
   refine (C2.o _).mono ?_;rintro e2 w2 ⟨rfl,rfl⟩;go_wp2;go_roundw
   case rel=>exact ⟨k+1,r,_,by omega,rfl,rfl,by show _=_;have:=HQ.o;omega,C6,hr,trivial⟩
   case measure=>simp [intOf]
  | false =>
   have C6:Hid (x=oM p (k+1)):=by show _=_;rw [HS.o];rfl
   go_wp2_with fail
   refine (C1.o _).mono ?_;rintro e1 w1 ⟨rfl,rfl⟩;go_wp2_with fail
   refine (C2.o _).mono ?_;rintro e2 w2 ⟨rfl,rfl⟩;go_wp2;go_roundw
   case rel=>exact ⟨k+1,x,_,by omega,rfl,rfl,by show _=_;have:=HQ.o;omega,C6,hx,trivial⟩
   case measure=>simp [intOf]
 obtain rfl:k=37:=by omega
 have hq:q < 0:=by have:=HQ.o;omega
 have HV:Hid (IntKind.u32.wrap (r:Int)=((oM p 37 % 4294967296:Nat):Int)):=by
  show _=_;rw [HR.o];simp [IntKind.wrap,IntKind.signed,IntKind.bits]
 go_wp2;go_ret;exact ⟨Hc HV.o,rfl⟩
def Cv (p r b:Nat):Nat:=let x:=(r+2 ^ b) % dP;let t:=timesN 0 x x;let t:=timesN t.1 t.2 x;if iG t.1 t.2 p 32 then r else x
def oN (p:Nat):Nat->Nat
 | 0=>0
 | k+1=>Cv p (oN p k) (35 - k)
def Ut (p:Nat) (_hp:p < 1000) (w:World):qC 198 #[.int .u64 (p:Int)] w fun e w'=>e=.returned (.int .u32 ((oN p 36 % 4294967296:Nat):Int))/\w=w':=by
 go_enter Tryz.func198,Tryz.ntmps198
 go_wp2;go_loopw [3,4] (fun v i wr=>∃(k r:Nat) (q:Int),k<=36/\v=.int .u64 (r:Int)/\i=.int .i64 q/\Hid (q=35 - (k:Int))/\Hid (r=oN p k)/\r < dP/\w=wr) (fun _ i _=>(intOf i+1).toNat)
 case atStart=>exact ⟨0,0,35,by omega,rfl,rfl,rfl,rfl,by decide,rfl⟩
 obtain ⟨k,r,q,hk,rfl,rfl,HQ,HR,hr,rfl⟩:=hrel;by_cases d8:k < 36
 .
  obtain ⟨b,rfl⟩:∃b:Nat,q=(b:Int):=⟨35 - k,by have:=HQ.o;omega⟩;have P5:(0:Int)<=(b:Int):=by omega
  have c8:(b:Int)<=35:=by have:=HQ.o;omega
  obtain ⟨x,HX⟩:=qX ((r+2 ^ b) % dP);have hx:x < dP:=by rw [<-HX.o];exact Nat.mod_lt _ (by decide)
  obtain ⟨e,HE⟩:∃e:Nat,Hid (2 ^ b=e):=⟨_,rfl⟩;have he:e < dP:=by rw [<-HE.o];exact Nat.lt_of_le_of_lt (Nat.pow_le_pow_right (by omega) (show b<=35 by omega)) (by decide)
  have w1:IntKind.u64.wrap (2 ^ b)=(e:Int):=by
   have:=wrapM e;rw [Nat.mod_eq_of_lt he,<-HE.o] at this;rw [<-HE.o,<-this];congr 1
  have w2:IntKind.u64.wrap ((r:Int)+(e:Int))=(x:Int):=by rw [<-HX.o,HE.o,<-wrapM];congr 1
  obtain ⟨h0,l0,vp⟩:∃h l,Hid (timesN 0 x x=(h,l)):=⟨_,_,rfl⟩;obtain ⟨h,l,HT⟩:∃h l,Hid (timesN h0 l0 x=(h,l)):=⟨_,_,rfl⟩;have hh:h0 < dP:=by have:=(eK 0 x x).1;rw [vp.o] at this;exact this
  have hl:l0 < dP:=by have:=(eK 0 x x).2;rw [vp.o] at this;exact this
  obtain ⟨v,HA⟩:=qX (iG h l p 32);have C0:Hid (∀W,qC 235 #[.int .u64 0,.int .u64 (x:Int),.int .u64 (x:Int)] W fun e w'=>e=.returned (.tuple #[.int .u64 (h0:Int),.int .u64 (l0:Int)])/\W=w'):=by
   intro W;have:=sE 0 x x (by decide) hx hx W;rw [vp.o] at this;exact this
  have C1:Hid (∀W,qC 235 #[.int .u64 (h0:Int),.int .u64 (l0:Int),.int .u64 (x:Int)] W fun e w'=>e=.returned (.tuple #[.int .u64 (h:Int),.int .u64 (l:Int)])/\W=w'):=by
   intro W;have:=sE h0 l0 x hh hl hx W;rw [HT.o] at this;exact this
  have C2:Hid (∀W,qC 236 #[.int .u64 (h:Int),.int .u64 (l:Int),.int .u64 (p:Int),.int .i64 32] W fun e w'=>e=.returned (.bool v)/\W=w'):=by
   intro W;have:=zE h l p 32 (by omega) W;rw [HA.o] at this;exact this
  have HS:Hid (oN p (k+1)=if v then r else x):=by
   have hq:=HQ.o;show Cv p (oN p k) (35 - k)=_
   rw [<-HR.o,show 35 - k=b by omega,Cv,HX.o];simp only [vp.o,HT.o,HA.o]
  clear he hh hl
  cases v with
  | true =>
   have C6:Hid (r=oN p (k+1)):=by show _=_;rw [HS.o];rfl
   go_wp2_with fail
   refine (C0.o _).mono ?_;rintro e0 w0 ⟨rfl,rfl⟩;go_wp2_with fail
   refine (C1.o _).mono ?_;rintro e1 w1 ⟨rfl,rfl⟩;go_wp2_with fail
   refine (C2.o _).mono ?_;rintro e2 w2 ⟨rfl,rfl⟩;go_wp2;go_roundw
   case rel=>exact ⟨k+1,r,_,by omega,rfl,rfl,by show _=_;have:=HQ.o;omega,C6,hr,trivial⟩
   case measure=>simp [intOf]
  | false =>
   have C6:Hid (x=oN p (k+1)):=by show _=_;rw [HS.o];rfl
   go_wp2_with fail
   refine (C0.o _).mono ?_;rintro e0 w0 ⟨rfl,rfl⟩;go_wp2_with fail
   refine (C1.o _).mono ?_;rintro e1 w1 ⟨rfl,rfl⟩;go_wp2_with fail
   refine (C2.o _).mono ?_;rintro e2 w2 ⟨rfl,rfl⟩;go_wp2;go_roundw
   case rel=>exact ⟨k+1,x,_,by omega,rfl,rfl,by show _=_;have:=HQ.o;omega,C6,hx,trivial⟩
   case measure=>simp [intOf]
 obtain rfl:k=36:=by omega
 have hq:q < 0:=by have:=HQ.o;omega
 have HV:Hid (IntKind.u32.wrap (r:Int)=((oN p 36 % 4294967296:Nat):Int)):=by
  show _=_;rw [HR.o];simp [IntKind.wrap,IntKind.signed,IntKind.bits]
 go_wp2;go_ret;exact ⟨Hc HV.o,rfl⟩
def iJ (n:Nat):Bool:=(List.range 33).all fun e=>decide (e < 2)||decide (n < e*e)||!decide (n % e=0)
def kA {n d:Nat} (h1:2<=d) (h2:d*d<=n) (h3:d < 33) (h:n % d=0):iJ n=false:=by
 rw [iJ,List.all_eq_false];refine ⟨d,List.mem_range.2 h3,?_⟩;simp [h];omega
def jK {n d:Nat} (h2:n < d*d) (h:∀e,2<=e->e < d->n % e≠0):iJ n=true:=by
 rw [iJ,List.all_eq_true];intro e _;by_cases h1:e < 2
 . simp [h1]
 by_cases h3:e < d
 . simp [h e (by omega) h3]
 have:n < e*e:=Nat.lt_of_lt_of_le h2 (Nat.mul_le_mul (by omega) (by omega));simp [this]
def Qi (n:Nat) (h2:2<=n) (h3:n < 1000) (w:World):qC 234 #[.int .u64 (n:Int)] w fun e w'=>e=.returned (.bool (iJ n))/\w=w':=by
 have h1:(1:Int) < (n:Int):=by omega
 go_enter Tryz.func234,Tryz.ntmps234
 go_wp2;go_loopw [3] (fun v wr=>∃d:Nat,v=.int .u64 (d:Int)/\2<=d/\d<=33/\Hid (∀e,2<=e->e < d->n % e≠0)/\w=wr) (fun v _=>33 - (intOf v).toNat)
 case atStart=>exact ⟨2,rfl,by omega,by omega,fun e _ _=>by omega,rfl⟩
 obtain ⟨d,rfl,hd,QE,HD,rfl⟩:=hrel;obtain ⟨z,HZ⟩:=qX (d*d);have hz:z < 2000:=by rw [<-HZ.o];exact Nat.lt_of_le_of_lt (Nat.mul_le_mul QE QE) (by decide)
 have w1:IntKind.u64.wrap ((d:Int)*(d:Int))=(z:Int):=by
  have:=wrapM z;rw [Nat.mod_eq_of_lt (Nat.lt_trans hz (by decide)),<-HZ.o] at this;rw [<-HZ.o,<-this];congr 1
 obtain ⟨m,HM⟩:=qX (n % d);have w2:(n:Int) % (d:Int)=(m:Int):=by rw [<-HM.o];rfl
 have w3:(n:Int).tmod (d:Int)=(m:Int):=by rw [Int.tmod_eq_emod_of_nonneg (by omega)];exact w2
 by_cases c:z<=n
 .
  have c1:(z:Int)<=(n:Int):=by omega
  have hd33:d < 33:=by
   have:=HZ.o;rcases Nat.lt_or_ge d 33 with h | h
   . exact h
   have:=Nat.mul_le_mul h h;omega
  by_cases hm:m=0
  . subst hm
    have HV:Hid (iJ n=false):=kA hd (by rw [HZ.o];exact c) hd33 HM.o;go_wp2;go_ret;exact ⟨aF HV.o.symm,rfl⟩
  have t1:((m:Int) == 0)=false:=by simp;omega
  have MW:Hid (∀e,2<=e->e < d+1->n % e≠0):=fun e h4 h5=>by
   rcases Nat.lt_or_ge e d with h | h
   . exact HD.o e h4 h
   obtain rfl:e=d:=by omega
   rw [HM.o];exact hm
  clear hm;have w4:IntKind.u64.wrap ((d:Int)+1)=((d+1:Nat):Int):=by
   have:=wrapM (d+1);rw [Nat.mod_eq_of_lt (Nat.lt_trans (show d+1 < 40 by omega) (by decide))] at this;rw [<-this];congr 1
  go_wp2;go_roundw
  case rel=>exact ⟨d+1,by go_num,by omega,by omega,MW,trivial⟩
  case measure=>simp [intOf];omega
 have c1:¬(z:Int)<=(n:Int):=by omega
 have HV:Hid (iJ n=true):=jK (by rw [HZ.o];omega) HD.o;go_wp2;go_ret;exact ⟨aF HV.o.symm,rfl⟩
def pl (n:Nat):List Nat:=(List.range' 2 (n - 2)).filter iJ
def gS:List Nat:=[2,3,5,7,11,13,17,19,23,29,31,37,41,43,47,53,59,61,67,71,73,79,83,89,97,101,103,107,109,113,127,131,137,139,149,151,157,163,167,173,179,181,191,193,197,199,211,223,227,229,233,239,241,251,257,263,269,271,277,281,283,293,307,311]
def Qg:pl 312=gS:=by decide +kernel
def Ir (n:Nat) (h:2<=n):pl (n+1)=pl n++if iJ n then [n] else []:=by
 have e:n+1 - 2=(n - 2)+1:=by omega
 rw [pl,pl,e,List.range'_concat,List.filter_append];congr 1
 have e2:2+1*(n - 2)=n:=by omega
 rw [e2]
 cases hp:iJ n<;>simp [hp]
def Wu:∀n,n < 312->(pl n).length < 64:=by decide +kernel
def Kj:gS.map (fun p=>oN p 36 % 4294967296)=Sha.dK.map BitVec.toNat:=by decide +kernel
def En:(gS.take 8).map (fun p=>oM p 37 % 4294967296)=[0x6a09e667,0xbb67ae85,0x3c6ef372,0xa54ff53a,0x510e527f,0x9b05688c,0x1f83d9ab,0x5be0cd19]:=by decide +kernel
def Ih (n:Nat):Value:=.int .u64 (n:Int)
def dn:(Tryz.prog.info? 266).map (fun i=>(i.zero,i.size,i.bytes))=some (some (.int .u64 0),1,8):=by kernel_rfl
def ak (n:Nat):∀u∈[Value.int .u64 (n:Int)],u.oneCell'=true:=by
 intro u hu;rw [List.mem_singleton] at hu;subst hu;rfl
def Ju (w:World):qC 197 #[.int .i64 64] w fun e w'=>∃v,e=.returned v/\w'.ownsRow w.heap.size 266 1 v 64 (gS.map Ih)/\qW w w':=by
 obtain ⟨i0,hi,o7,g8,j5⟩:=info_parts dn;go_enter Tryz.func197,Tryz.ntmps197
 go_wp2;go_loopw [3,4] (fun v nv wr=>∃(n m:Nat),nv=.int .u64 (n:Int)/\2<=n/\n<=312/\m<=64/\Hid ((pl n).length=m)/\Hid (wr.ownsRow w.heap.size 266 1 v m ((pl n).map Ih))/\Hid (qW w wr))
  (fun _ nv _=>312 - (intOf nv).toNat)
 case atStart=>exact ⟨2,0,rfl,by omega,by omega,by omega,rfl,World.ownsRow_nil _ _ _ _,Below.refl _ _⟩
 obtain ⟨n,m,rfl,hn,AG,hm,HM,HO,HB⟩:=hrel;have f8:∃A c,u3=.slice A m c:=by
  rcases HO.o.2 with ⟨rfl,h⟩ | ⟨g,c,_,rfl,_⟩
  . exact ⟨none,0,by rw [h]⟩
  exact ⟨_,_,rfl⟩
 obtain ⟨A,c,rfl⟩:=f8;by_cases d8:n < 312
 .
  have tq:m < 64:=by rw [<-HM.o];exact Wu n d8
  have hm3:(m:Int) < 64:=by omega
  have w4:IntKind.u64.wrap ((n:Int)+1)=((n+1:Nat):Int):=by
   have:=wrapM (n+1);rw [Nat.mod_eq_of_lt (Nat.lt_trans (show n+1 < 400 by omega) (by decide))] at this;rw [<-this];congr 1
  have C:=hid (fun W=>Qi n hn (by omega) W)
  cases hv:iJ n with
  | true =>
   rw [hv] at C;have HP:Hid (pl (n+1)=pl n++[n]):=by show _=_;rw [Ir n hn,hv];rfl
   have N2:Hid (m+1<=maxLen):=by show _<=_;unfold maxLen;omega
   have N3:Hid ((m+1)*8<=140737488355328):=by show _<=_;omega
   have N4:Hid (∀o,w.heap.size<=(wr.alloc o).heap.size):=by intro o;have:=HB.o.size;simp;omega
   clear hv;go_wp2_with fail
   refine (C.o _).mono ?_;rintro e1 w1 ⟨rfl,rfl⟩;go_wp2_with (at_builtin;refine wpList_append_own _ rfl _ _ 262 rfl w.heap.size 266 i0 (.int .u64 0) 1 8 Tryz.underlying262 hi o7 g8 j5 rfl (by omega) _ _ _ rfl (HO.o.alloc _) ⟨wr.heap.size,0,none⟩ 1 1 [Value.int .u64 (n:Int)] rfl rfl (cell_one_new _ _ _) (ak n) N2.o N3.o (N4.o _) ?_;intro v' w1 l8 i8 _)
   have rn:Hid (w1.ownsRow w.heap.size 266 1 v' (m+1) ((pl (n+1)).map Ih)):=by
    rw [HP.o,List.map_append];exact l8
   have xm:Hid ((pl (n+1)).length=m+1):=by show _=_;rw [HP.o,List.length_append,HM.o];rfl
   have i9:Hid (qW w w1) :=
    ((HB.o.alloc HB.o.size _).grown i8 (N4.o _) (fun g hg=>by
      have:=(HO.o.lt g hg).1;exact this))
   clear l8 i8;go_wp2;go_roundw
   case rel=>exact ⟨n+1,m+1,rfl,by omega,by omega,by omega,xm,rn,i9⟩
   case measure=>simp [intOf];omega
  | false =>
   rw [hv] at C;have HP:Hid (pl (n+1)=pl n):=by show _=_;rw [Ir n hn,hv];simp
   have rn:Hid (wr.ownsRow w.heap.size 266 1 (.slice A m c) m ((pl (n+1)).map Ih)):=by
    rw [HP.o];exact HO
   have xm:Hid ((pl (n+1)).length=m):=by show _=_;rw [HP.o];exact HM.o
   clear hv;go_wp2_with fail
   refine (C.o _).mono ?_;rintro e1 w1 ⟨rfl,rfl⟩;go_wp2;go_roundw
   case rel=>exact ⟨n+1,m,rfl,by omega,by omega,by omega,xm,rn,HB⟩
   case measure=>simp [intOf];omega
 obtain rfl:n=312:=by omega
 have e1:=HM.o;rw [Qg] at e1;obtain rfl:m=64:=e1.symm;have rn:=HO.o;rw [Qg] at rn;have ug:=hid rn;clear rn HO HM e1;go_wp2;go_ret;exact ⟨_,rfl,ug.o,HB.o⟩
end Go.Proofs.YtahkcemdbfjilaaGreatDoor
namespace Go.Proofs.YtahkcemdbfjilaaGreatDoor.Sha
open Go.RowKit
def Row (w:World) (g:Nat) (l:List (BitVec 32)):Prop:=∃cur:Array Value,Has w g 53 cur/\cur.toList.take l.length=l.map fA
def Row.cell {w:World} {g:Nat} {l:List (BitVec 32)} (h:Row w g l) (i:Nat) (hi:i < l.length):w.cell? ⟨g,i,none⟩=some (.int .u32 (u (at32 l i))):=by
 obtain ⟨cur,h1,h2⟩:=h;rw [h1.at_ i,<-Array.getElem?_toList];have:(cur.toList.take l.length)[i]? = (l.map fA)[i]?:=by rw [h2]
 rw [List.getElem?_take,if_pos hi] at this;rw [this,List.getElem?_map,List.getElem?_eq_getElem hi];simp [fA,at32,List.getD,List.getElem?_eq_getElem hi]
def Row.free {w:World} {g:Nat} {l:List (BitVec 32)} (h:Row w g l) (i:Nat):w.frozen? ⟨g,i,none⟩=false:=by
 obtain ⟨cur,h1,_⟩:=h;exact h1.free i
def Row.inside {w:World} {g:Nat} {l:List (BitVec 32)} (h:Row w g l):g < w.heap.size:=by
 obtain ⟨cur,h1,_⟩:=h;exact h1.inside
def Row.kept {w w':World} {B g:Nat} {l:List (BitVec 32)} (h:Row w g l) (hb:Below B w w') (hg:g < B):Row w' g l:=by
 obtain ⟨cur,h1,h2⟩:=h;exact ⟨cur,h1.kept hb hg,h2⟩
def Row.other {w:World} {g:Nat} {l:List (BitVec 32)} (h:Row w g l) {p:Addr} (hp:g≠p.block) (v:Value):Row (w.setCell p v) g l:=by
 obtain ⟨cur,h1,h2⟩:=h;exact ⟨cur,h1.other hp v,h2⟩
def Row.put {w:World} {g:Nat} {l:List (BitVec 32)} (h:Row w g l) (i:Nat) (x:BitVec 32):Row (w.setCell ⟨g,i,none⟩ (.int .u32 (u x))) g (l.set i x):=by
 obtain ⟨cur,h1,h2⟩:=h;refine ⟨_,h1.put i _,?_⟩;rw [List.length_set,Array.toList_setIfInBounds,List.take_set,h2,List.map_set];rfl
def Row.more {w:World} {g:Nat} {l:List (BitVec 32)} (h:Row w g l) (o:Obj):Row (w.alloc o) g l:=by
 obtain ⟨cur,h1,h2⟩:=h;exact ⟨cur,h1.more o,h2⟩
def Row.drawn {w:World} {g:Nat} {l:List (BitVec 32)} (h:Row w g l) (n:Nat):Row (w.drewN n) g l:=by
 obtain ⟨cur,h1,h2⟩:=h;exact ⟨cur,h1.drawn n,h2⟩
def yN {w:World} {B n c:Nat} {A:Option Addr} {l:List (BitVec 32)} (hl:l.length=n) (hn:0 < n) (h:w.ownsRow B 53 1 (.slice A n c) n (l.map fA)):∃g,A=some ⟨g,0,none⟩/\Row w g l/\B<=g:=by
 rcases h.2 with ⟨_,h2⟩ | ⟨g,cap,cur,h1,h2,h3,_,_,_,h7⟩
 . omega
 cases h1
 exact ⟨g,rfl,⟨cur,h3,by rw [hl,<-h7,Nat.mul_one]⟩,h2⟩
def prm (i:Nat):Nat:=gS.getD i 0
def Qt:∀i,i < 64->prm i < 1000:=by decide
def di (i:Nat) (h:i < 64):((oN (prm i) 36 % 4294967296:Nat):Int)=u (at32 dK i):=by
 have e:=congrArg (fun l=>l[i]?) Kj;have l1:i < gS.length:=h;have l2:i < dK.length:=h;simp only [List.getElem?_map,List.getElem?_eq_getElem l1,List.getElem?_eq_getElem l2,Option.map_some,Option.some.injEq] at e;unfold u prm at32;simp only [List.getD,List.getElem?_eq_getElem l1,List.getElem?_eq_getElem l2,Option.getD_some];rw [e]
def li:jT.map BitVec.toNat=[0x6a09e667,0xbb67ae85,0x3c6ef372,0xa54ff53a,0x510e527f,0x9b05688c,0x1f83d9ab,0x5be0cd19]:=by decide
def Rk (i:Nat) (h:i < 8):((oM (prm i) 37 % 4294967296:Nat):Int)=u (at32 jT i):=by
 have e:=congrArg (fun l=>l[i]?) En;rw [<-li] at e;have l1:i < (gS.take 8).length:=h;have l2:i < jT.length:=h;have l3:i < gS.length:=Nat.lt_trans h (by decide);simp only [List.getElem?_map,List.getElem?_eq_getElem l1,List.getElem?_eq_getElem l2,Option.map_some,Option.some.injEq,List.getElem_take] at e;unfold u prm at32;simp only [List.getD,List.getElem?_eq_getElem l3,List.getElem?_eq_getElem l2,Option.getD_some];rw [e]
def oD (l:List (BitVec 32)) (i:Nat) (h:i < l.length):(l.take (i+1)).map fA=(l.take i).map fA++[.int .u32 (u (at32 l i))]:=by
 rw [List.take_succ_eq_append_getElem h,List.map_append,at32,List.getD,List.getElem?_eq_getElem h];rfl
def Dc {w:World} {B:Nat} {v:Value} (h:w.ownsRow B 266 1 v 64 (gS.map Ih)):∃g c,v=.slice (some ⟨g,0,none⟩) 64 c/\g < w.heap.size/\B<=g/\∀i,i < 64->w.cell? ⟨g,i,none⟩=some (.int .u64 (prm i:Nat)):=by
 have hc:=fun g hg=>h.cells (g:=g) hg
 have hl:=fun g hg=>h.lt g hg
 rcases h.2 with ⟨_,h2⟩ | ⟨g,cap,cur,rfl,_⟩
 . omega
 refine ⟨g,cap,rfl,(hl g rfl).2,(hl g rfl).1,fun i hi=>?_⟩;have l1:i < gS.length:=hi;have:=hc g rfl i (.int .u64 (prm i:Nat)) (by simp [prm,Ih,List.getD,List.getElem?_eq_getElem l1]);have e:(⟨g,0,none⟩:Addr).add i=⟨g,i,none⟩:=by unfold Addr.add;split<;>simp_all
 rwa [e] at this
structure Env (w:World) (g4 g5 gp:Nat) (st:List (BitVec 32)) (P:List UInt8) (wr:World):Prop where
 st:Row wr g4 st
 k:Row wr g5 dK
 res:Has wr w.heap.size 81 zero32
 p:∀j,j < P.length->wr.cell? ⟨gp,j,none⟩=some (V8 (at8 P j))
 pin:gp < wr.heap.size
 below:qW w wr
section
variable {w wr w':World} {g4 g5 gp N:Nat} {st:List (BitVec 32)} {P:List UInt8}
theorem Env.step (h:Env w g4 g5 gp st P wr) (hb:qW wr w'):Env w g4 g5 gp st P w' :=
 ⟨h.st.kept hb h.st.inside,h.k.kept hb h.k.inside,h.res.kept hb h.res.inside,fun j hj=>(hb.cell (p:=⟨gp,j,none⟩) h.pin).trans (h.p j hj),Nat.lt_of_lt_of_le h.pin hb.size,h.below.trans (hb.mono h.below.size)⟩
theorem Env.put (h:Env w g4 g5 gp st P wr) (h4:g4≠N) (h5:g5≠N) (h0:w.heap.size < N) (hp:gp≠N) (i:Nat) (v:Value):Env w g4 g5 gp st P (wr.setCell ⟨N,i,none⟩ v) :=
 ⟨h.st.other (p:=⟨N,i,none⟩) h4 v,h.k.other (p:=⟨N,i,none⟩) h5 v,h.res.other (p:=⟨N,i,none⟩) (by show w.heap.size≠N;omega) v,
  fun j hj=>(World.cell?_setCell_other wr ⟨N,i,none⟩ ⟨gp,j,none⟩ v (fun e=>hp (by injection e;omega))).trans (h.p j hj),by simpa using h.pin,h.below.setCell (p:=⟨N,i,none⟩) (by show w.heap.size<=N;omega) v⟩
theorem Env.raise (h:Env w g4 g5 gp st P wr) (h5:g5≠g4) (h0:w.heap.size < g4) (hp:gp≠g4) (i:Nat) (x:BitVec 32):Env w g4 g5 gp (st.set i x) P (wr.setCell ⟨g4,i,none⟩ (.int .u32 (u x))) :=
 ⟨h.st.put i x,h.k.other (p:=⟨g4,i,none⟩) h5 _,h.res.other (p:=⟨g4,i,none⟩) (by show w.heap.size≠g4;omega) _,
  fun j hj=>(World.cell?_setCell_other wr ⟨g4,i,none⟩ ⟨gp,j,none⟩ _ (fun e=>hp (by injection e;omega))).trans (h.p j hj),by simpa using h.pin,h.below.setCell (p:=⟨g4,i,none⟩) (by show w.heap.size<=g4;omega) _⟩
theorem Env.drawn (h:Env w g4 g5 gp st P wr) (n:Nat):Env w g4 g5 gp st P (wr.drewN n) :=
 ⟨h.st.drawn n,h.k.drawn n,h.res.drawn n,fun j hj=>h.p j hj,h.pin,h.below.drewN' n⟩
theorem Env.more (h:Env w g4 g5 gp st P wr) (o:Obj):Env w g4 g5 gp st P (wr.alloc o):=h.step (qB.alloc qN _)
theorem Gg {w:World} {B L:Nat} {v:Value} {P:List UInt8} (h0:0 < L) (h:w.ownsRow B 5 1 v L (P.map V8)):∃g c,v=.slice (some ⟨g,0,none⟩) L c/\L<=c/\B<=g/\g < w.heap.size/\∀j,j < P.length->w.cell? ⟨g,j,none⟩=some (V8 (at8 P j)):=by
 have hc:=fun g hg=>h.cells (g:=g) hg
 have hl:=fun g hg=>h.lt g hg
 rcases h.2 with ⟨_,h2⟩ | ⟨g,cap,cur,rfl,_,_,h5,_⟩
 . omega
 refine ⟨g,cap,rfl,h5,(hl g rfl).1,(hl g rfl).2,fun j hj=>?_⟩;have:=hc g rfl j (V8 (at8 P j)) (by rw [List.getElem?_map,List.getElem?_eq_getElem hj];simp [at8,List.getD,List.getElem?_eq_getElem hj]);have e:(⟨g,0,none⟩:Addr).add j=⟨g,j,none⟩:=by unfold Addr.add;split<;>simp_all
 rwa [e] at this
structure Uk (w:World) (g4 g5:Nat) (wr:World):Prop where
 st:Row wr g4 jT
 k:Row wr g5 dK
 res:Has wr w.heap.size 81 zero32
 below:qW w wr
theorem Uk.env (h:Uk w g4 g5 wr) (hb:qW wr w') (hp:gp < w'.heap.size) (hc:∀j,j < P.length->w'.cell? ⟨gp,j,none⟩=some (V8 (at8 P j))):Env w g4 g5 gp jT P w' :=
 ⟨h.st.kept hb h.st.inside,h.k.kept hb h.k.inside,h.res.kept hb h.res.inside,hc,hp,h.below.trans (hb.mono h.below.size)⟩
def mZ (p:List UInt8):List (BitVec 32):=(List.range 64).map (gG (words p 16))
theorem Ig (p:List UInt8):(mZ p).length=64:=by simp [mZ]
theorem ei (p:List UInt8) (k:Nat) (h:k < 64):at32 (mZ p) k=gG (words p 16) k:=by simp [mZ,at32,List.getD,h]
theorem ay (p:List UInt8):mC (words p 16) 64=(mZ p).map fA:=by simp [mC,mZ,fA]
theorem Py (h:Env w g4 g5 gp st P wr) (q c:Nat) (hq:64*(q+1)<=P.length) (hc:64<=c):Bytes wr (.slice (some ⟨gp,64*q,none⟩) 64 c) (blk P q) (some ⟨gp,64*q,none⟩) c gp (64*q):=by
 have hb:=yH P q hq;refine ⟨by rw [hb],by rw [hb];exact hc,(fun h=>by cases h),fun a ha j hj=>?_,h.pin,fun _=>rfl⟩
 cases ha
 rw [hb] at hj;have e:(⟨gp,64*q,none⟩:Addr).add j=⟨gp,64*q+j,none⟩:=by unfold Addr.add;split<;>simp_all
 rw [e,h.p (64*q+j) (by omega)];congr 2
 simp [at8,blk,List.getD,List.getElem?_drop,hj]
theorem bh (p:List UInt8) (s:S8) (k:Nat) (h:k < 64):aV (words p 16) s (k+1)=xG (aV (words p 16) s k) (at32 dK k) (at32 (mZ p) k):=by
 rw [Sq _ (iQ p 16),ei p k h]
end
def z8:Array Value:=#[.int .u32 0,.int .u32 0,.int .u32 0,.int .u32 0,.int .u32 0,.int .u32 0,.int .u32 0,.int .u32 0]
structure fK (w:World) (g4 g5 gp N mh:Nat) (st:List (BitVec 32)) (P:List UInt8) (W:List (BitVec 32)) (v:List (BitVec 32)) (wr:World):Prop where
 env:Env w g4 g5 gp st P wr
 row:Row wr mh W
 v:Has wr N 232 (vec v)
def fK.start {w w6:World} {g4 g5 gp mh:Nat} {st:List (BitVec 32)} {P:List UInt8} {W l:List (BitVec 32)} (h:Env w g4 g5 gp st P w6) (hr:Row w6 mh W) (z:Array Value) (hz:z=z8) :
 ∃W7,w6.alloc (.cells z 232)=W7/\fK w g4 g5 gp w6.heap.size mh st P W (copied l 0) W7:=by
 subst hz;exact ⟨_,rfl,h.more _,hr.more _,Has.fresh w6 232 z8⟩
def fK.apart {w w6:World} {g4 g5 gp mh:Nat} {st:List (BitVec 32)} {P:List UInt8} {W:List (BitVec 32)} (h:Env w g4 g5 gp st P w6) (hr:Row w6 mh W):g4≠w6.heap.size/\g5≠w6.heap.size/\w.heap.size < w6.heap.size/\gp≠w6.heap.size/\mh≠w6.heap.size:=by
 have h1:=h.st.inside;have h2:=h.k.inside;have h3:=h.res.inside;have h4:=h.pin;have h5:=hr.inside;exact ⟨by omega,by omega,by omega,by omega,by omega⟩
def fK.put {w wr:World} {g4 g5 gp N mh:Nat} {st:List (BitVec 32)} {P:List UInt8} {W v:List (BitVec 32)} (h:fK w g4 g5 gp N mh st P W v wr) (hd:g4≠N/\g5≠N/\w.heap.size < N/\gp≠N/\mh≠N) (i:Nat) (x:BitVec 32) :
 fK w g4 g5 gp N mh st P W (v.set i x) (wr.setCell ⟨N,i,none⟩ (.int .u32 (u x))) :=
 ⟨h.env.put hd.1 hd.2.1 hd.2.2.1 hd.2.2.2.1 i _,h.row.other (p:=⟨N,i,none⟩) hd.2.2.2.2 _,by rw [<-yG];exact h.v.put i _⟩
def fK.drawn {w wr:World} {g4 g5 gp N mh:Nat} {st:List (BitVec 32)} {P:List UInt8} {W v:List (BitVec 32)} (h:fK w g4 g5 gp N mh st P W v wr) (n:Nat):fK w g4 g5 gp N mh st P W v (wr.drewN n) :=
 ⟨h.env.drawn n,h.row.drawn n,h.v.drawn n⟩
def fK.raise {w wr:World} {g4 g5 gp N mh:Nat} {st:List (BitVec 32)} {P:List UInt8} {W v:List (BitVec 32)} (h:fK w g4 g5 gp N mh st P W v wr) (h5:g5≠g4) (h0:w.heap.size < g4) (hp:gp≠g4) (h12:mh≠g4) (hN:N≠g4) (i:Nat) (x:BitVec 32) :
 fK w g4 g5 gp N mh (st.set i x) P W v (wr.setCell ⟨g4,i,none⟩ (.int .u32 (u x))) :=
 ⟨h.env.raise h5 h0 hp i x,h.row.other (p:=⟨g4,i,none⟩) h12 _,h.v.other (p:=⟨g4,i,none⟩) hN _⟩
def To {w wr:World} {g4 g5 gp:Nat} {st:List (BitVec 32)} {P:List UInt8} (h:Env w g4 g5 gp st P wr) (z:Array Value) (hz:z=zero32) :
 ∃N W,wr.heap.size=N/\wr.alloc (.cells z 81)=W/\Hid (Row W g4 st)/\Hid (Has W w.heap.size 81 zero32)/\Hid (Has W N 81 (bvec (kB st 0)))/\Hid (qW w W)/\Hid (g4≠N/\w.heap.size < N):=by
 subst hz;exact ⟨_,_,rfl,rfl,h.st.more _,h.res.more _,Has.fresh wr 81 zero32,h.below.alloc h.below.size _,by have:=h.st.inside;omega,h.res.inside⟩
def kv (a b c d:BitVec 32):(u a+u b+u c+u d) % 4294967296=u (a+b+c+d):=by rw [<-Int.emod_add_emod,gn,eL]
def eu (x:BitVec 32):bits .xor .u32 (u x) 4294967295=u (~~~x):=by
 have h:(4294967295:Int)=u (BitVec.allOnes 32):=rfl;rw [h,mS,BitVec.xor_allOnes]
def dc (s:S8) (kk ww:BitVec 32) :
 (((u s.h+bits BinOp.xor IntKind.u32 (bits BinOp.xor IntKind.u32 (u (cD s.e 6)) (u (cD s.e 11))) (u (cD s.e 25)) +
   bits BinOp.xor IntKind.u32 (bits BinOp.and IntKind.u32 (u s.e) (u s.f)) (bits BinOp.and IntKind.u32 (bits BinOp.xor IntKind.u32 (u s.e) 4294967295) (u s.g))+u kk) % 4294967296+u ww) % 4294967296)=u (sx s kk ww):=by
 simp only [mS,Iw,eu,kv,eL];rfl
def Cf (x:BitVec 32) (c:Int) (h:1<=c/\c<=31) (w:World) :
 qC 202 #[.int .u32 (u x),.int .i64 c] w fun e w'=>e=.returned (.int .u32 (u (cD x c.toNat)))/\w'=w:=by
 obtain ⟨n,rfl⟩:=Int.eq_ofNat_of_zero_le (a:=c) (by omega);exact (kP x n (by omega) (by omega) w).mono fun _ _ ⟨h1,h2⟩=>⟨h1,h2.symm⟩
end Go.Proofs.YtahkcemdbfjilaaGreatDoor.Sha
