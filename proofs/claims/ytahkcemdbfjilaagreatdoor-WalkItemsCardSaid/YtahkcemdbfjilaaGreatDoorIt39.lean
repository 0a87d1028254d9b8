/- Several texts in one. Conditions: those said at each. -/
import Derived.Test.YtahkcemdbfjilaaGreatDoorIt00
import Derived.Test.YtahkcemdbfjilaaGreatDoorIt38
set_option linter.unusedSimpArgs false
set_option linter.unusedVariables false
set_option maxRecDepth 100000
namespace Go.Proofs.YtahkcemdbfjilaaGreatDoor.Sha
open Go.RowKit
theorem k256:(256:BitVec 32).toNat=256:=by decide
theorem k000:(0:BitVec 32).toNat=0:=by decide
def hx (p:List UInt8) (t:Nat):Nat→BitVec 32
 | 0=>0
 | k+1=>256*hx p t k+wd (at8 p (4*t+k))
theorem hx_num (p:List UInt8) (t k:Nat):(256*u (hx p t k) % 4294967296+u (wd (at8 p (4*t+k)))) % 4294967296=u (hx p t (k+1)):=by
 have e:(256*u (hx p t k)) % 4294967296=u (256*hx p t k):=by
  unfold u;rw [BitVec.toNat_mul,k256];omega
 rw [e,add32];rfl
theorem wd_lt (x:UInt8):(wd x).toNat < 256:=by
 have h1:=b8_lt x;have h2:=b8_u x;unfold u at h2;omega
theorem or_nat (h i r:Nat) (hr:r < 2 ^ i):h*2 ^ i ||| r=h*2 ^ i+r:=by
 rw [←Nat.shiftLeft_eq];exact (Nat.shiftLeft_add_eq_or_of_lt hr h).symm
theorem four_nat (a b c d:Nat) (hb:b < 256) (hc:c < 256) (hd:d < 256) :
 ((a*2 ^ 24 ||| b*2 ^ 16) ||| c*2 ^ 8) ||| d=a*2 ^ 24+b*2 ^ 16+c*2 ^ 8+d:=by
 have e1:a*2 ^ 24+b*2 ^ 16=(a*2 ^ 8+b)*2 ^ 16:=by omega
 have e2:a*2 ^ 24+b*2 ^ 16+c*2 ^ 8=(a*2 ^ 16+b*2 ^ 8+c)*2 ^ 8:=by
  have q1:(2:Nat) ^ 24=2 ^ 16*2 ^ 8:=rfl;have q2:(2:Nat) ^ 16=2 ^ 8*2 ^ 8:=rfl;rw [Nat.add_mul,Nat.add_mul,Nat.mul_assoc,Nat.mul_assoc,←q1,←q2]
 have f1:=or_nat a 24 (b*2 ^ 16) (by omega)
 have f2:=or_nat (a*2 ^ 8+b) 16 (c*2 ^ 8) (by omega)
 have f3:=or_nat (a*2 ^ 16+b*2 ^ 8+c) 8 d (by omega)
 rw [←e1] at f2;rw [←e2] at f3;rw [f1,f2,f3]
theorem four_or (a b c d:BitVec 32) (ha:a.toNat < 256) (hb:b.toNat < 256) (hc:c.toNat < 256) (hd:d.toNat < 256) :
 256*(256*(256*(256*0+a)+b)+c)+d=shL a 24 ||| shL b 16 ||| shL c 8 ||| d:=by
 apply BitVec.eq_of_toNat_eq;have e1:(shL a 24 ||| shL b 16 ||| shL c 8 ||| d).toNat=((a.toNat*2 ^ 24 ||| b.toNat*2 ^ 16) ||| c.toNat*2 ^ 8) ||| d.toNat:=by
  simp only [shL,BitVec.toNat_or,BitVec.toNat_shiftLeft,Nat.shiftLeft_eq];rw [Nat.mod_eq_of_lt (by omega),Nat.mod_eq_of_lt (by omega),Nat.mod_eq_of_lt (by omega)]
 rw [e1,four_nat _ _ _ _ hb hc hd];simp only [BitVec.toNat_add,BitVec.toNat_mul,k256,k000];omega
theorem hx_four (p:List UInt8) (t:Nat):hx p t 4=be4 p t:=by
 have e:=four_or (wd (at8 p (4*t))) (wd (at8 p (4*t+1))) (wd (at8 p (4*t+2))) (wd (at8 p (4*t+3))) (wd_lt _) (wd_lt _) (wd_lt _) (wd_lt _);exact e
theorem at32_words (p:List UInt8) (t:Nat) (h:t < 16):at32 (words p 16) t=hx p t 4:=by
 rw [hx_four];simp [at32,words,List.getD,h]
end Go.Proofs.YtahkcemdbfjilaaGreatDoor.Sha
namespace Go.Proofs.YtahkcemdbfjilaaGreatDoor.Sha
open Go.RowKit
theorem infoU32:(Tryz.prog.info? 53).map (fun i=>(i.zero,i.size,i.bytes))=some (some (.int .u32 0),1,4):=by kernel_rfl
theorem one_u32 (z:Int):∀u∈[Value.int .u32 z],u.oneCell'=true:=by
 intro u hu;rw [List.mem_singleton] at hu;subst hu;rfl
def wRow (l:List (BitVec 32)) (t:Nat):List Value:=(List.range t).map fun i=>.int .u32 (u (wAt l i))
theorem wRow_next (l:List (BitVec 32)) (t:Nat):wRow l (t+1)=wRow l t++[.int .u32 (u (wAt l t))]:=by simp [wRow,List.range_succ]
theorem turn7 (x:BitVec 32) (w:World):Calls Tryz.prog 202 #[.int .u32 (u x),.int .i64 7] w fun e w'=>e=.returned (.int .u32 (u (rotR x 7)))∧w=w':=turned_any x 7 (by omega) (by omega) w
theorem turn18 (x:BitVec 32) (w:World):Calls Tryz.prog 202 #[.int .u32 (u x),.int .i64 18] w fun e w'=>e=.returned (.int .u32 (u (rotR x 18)))∧w=w':=turned_any x 18 (by omega) (by omega) w
theorem turn17 (x:BitVec 32) (w:World):Calls Tryz.prog 202 #[.int .u32 (u x),.int .i64 17] w fun e w'=>e=.returned (.int .u32 (u (rotR x 17)))∧w=w':=turned_any x 17 (by omega) (by omega) w
theorem turn19 (x:BitVec 32) (w:World):Calls Tryz.prog 202 #[.int .u32 (u x),.int .i64 19] w fun e w'=>e=.returned (.int .u32 (u (rotR x 19)))∧w=w':=turned_any x 19 (by omega) (by omega) w
theorem row_word {w:World} {B:Nat} {A:Option Addr} {n c:Nat} {l:List (BitVec 32)} (h:w.ownsRow B 53 1 (.slice A n c) n (wRow l n)) (hn:0 < n) :
 ∃g,A=some ⟨g,0,none⟩∧∀i,i < n→w.cell? ⟨g,i,none⟩=some (.int .u32 (u (wAt l i))):=by
 have hc:=fun g hg=>h.cells (g:=g) hg
 rcases h.2 with ⟨h1,h2⟩ | ⟨g,c',cs,h1,_⟩
 · omega
 · cases h1
   refine ⟨g,rfl,fun i hi=>?_⟩
   have:=hc g rfl i (.int .u32 (u (wAt l i))) (by simp [wRow,hi])
   have e:(⟨g,0,none⟩:Addr).add i=⟨g,i,none⟩:=by unfold Addr.add;split<;>simp_all
   rwa [e] at this
end Go.Proofs.YtahkcemdbfjilaaGreatDoor.Sha
namespace Go.Proofs.YtahkcemdbfjilaaGreatDoor.Sha
open Go.RowKit
theorem cell_drew {w:World} {a:Addr} {v:Value} (h:w.cell? a=some v):w.drew.cell? a=some v:=h
theorem word_num (a b x y:BitVec 32):IntKind.u32.wrap (IntKind.u32.wrap (IntKind.u32.wrap (u a+bits BinOp.xor IntKind.u32 (bits BinOp.xor IntKind.u32 (u (rotR x 7)) (u (rotR x 18))) (u x / 8))+u b)+bits BinOp.xor IntKind.u32 (bits BinOp.xor IntKind.u32 (u (rotR y 17)) (u (rotR y 19))) (u y / 1024)) =
 u (a+sig0 x+b+sig1 y):=by
 have e1:u x / 8=u (shR x 3):=shr32 x 3;have e2:u y / 1024=u (shR y 10):=shr32 y 10;rw [e1,e2];simp only [wrap32,xor32,add32];rfl
theorem own_drew {w:World} {B n:Nat} {e:TypeId} {v:Value} {xs:List Value} (h:w.ownsRow B e 1 v n xs):w.drew.ownsRow B e 1 v n xs:=h
set_option maxHeartbeats 2000000 in
theorem refWords_any (p:List UInt8) (A:Option Addr) (cap bb off:Nat) (w:World) (hn:p.length=64) (hs:Bytes w (.slice A 64 cap) p A cap bb off) :
 Calls Tryz.prog 201 #[.slice A 64 cap] w fun e w'=>∃v,e=.returned v∧w'.ownsRow w.heap.size 53 1 v 64 (wRow (words p 16) 64)∧Below w.heap.size w w':=by
 obtain ⟨i0,hi,hz0,hz1,hz2⟩:=info_parts infoU32;go_enter Tryz.func201,Tryz.ntmps201
 go_wp2;have HP:=hid hs;have HN:=hid hn;clear hs hn;go_loopw [3,4] (fun v i wr=>∃(t:Nat) (B:Option Addr) (c:Nat),t≤64∧v=.slice B t c∧i=.int .i64 (t:Int)∧Hid (wr.ownsRow w.heap.size 53 1 (.slice B t c) t (wRow (words p 16) t))∧Hid (Below w.heap.size w wr))
  (fun _ i _=>64 - (intOf i).toNat)
 case atStart=>exact ⟨0,none,0,by omega,rfl,rfl,World.ownsRow_nil _ _ _ _,Below.refl _ _⟩
 case round =>
  obtain ⟨t,B,c,ht,rfl,rfl,HO,HB⟩:=hrel;by_cases hlt:t < 64
  · by_cases h16:t < 16
    · go_wp2
      go_loopw [5,6] (fun x i w2=>∃k:Nat,k≤4∧i=.int .i64 (k:Int)∧x=.int .u32 (u (hx p t k))∧w2=wr)
       (fun _ i _=>4 - (intOf i).toNat)
      case atStart=>exact ⟨0,by omega,rfl,rfl,rfl⟩
      case round =>
       obtain ⟨k,hk,rfl,rfl,rfl⟩:=hrel;by_cases hk4:k < 4
       · obtain ⟨q0,e0,E0⟩:∃q:Nat,4*(t:Int)=(q:Int)∧Hid (4*t=q):=⟨4*t,by omega,rfl⟩
         obtain ⟨q1,e1,E1⟩:∃q:Nat,(q0:Int)+(k:Int)=(q:Int)∧Hid (q0+k=q):=⟨q0+k,by omega,rfl⟩
         have hq:(q1:Int) < 64:=by have:=E0.out;have:=E1.out;omega
         have hA:=HP.out.src (by rw [HN.out];omega)
         have hc:=(HP.out.kept HB.out (Nat.le_refl _)).cells q1 (by rw [HN.out];omega)
         subst hA;have hc':wr.cell? ⟨bb,off+q1,none⟩=some (.int .u8 (b8 (at8 p q1))):=hc;clear hc;go_wp2;go_roundw
         case rel =>
          refine ⟨k+1,by omega,rfl,?_,trivial⟩
          have e:at8 p q1=at8 p (4*t+k):=by rw [E0.out,E1.out]
          rw [←hx_num,←e,b8m]
         case measure=>simp [intOf];omega
       · obtain rfl:k=4:=by omega
         have N2:Hid (t+1≤maxLen):=by show _≤_;unfold maxLen;omega
         have N3:Hid ((t+1)*4≤140737488355328):=by show _≤_;omega
         have N4:Hid (∀o,w.heap.size≤(wr.alloc o).heap.size):=by intro o;have:=HB.out.size;simp;omega
         go_wp2_with (at_builtin;refine wpList_append_own _ rfl _ _ 264 rfl w.heap.size 53 i0 (.int .u32 0) 1 4 Tryz.underlying264 hi hz0 hz1 hz2 rfl (by omega) _ _ _ rfl (HO.out.alloc _) ⟨wr.heap.size,0,none⟩ 1 1 [Value.int .u32 (u (hx p t 4))] rfl rfl (cell_one_new _ _ _) (one_u32 _) N2.out N3.out (N4.out _) ?_;intro v3 w3 hown hgrow _)
         have HB3:Hid (Below w.heap.size w w3) :=
          ((HB.out.alloc HB.out.size _).grown hgrow (N4.out _) (fun g hk=>(HO.out.lt g hk).1))
         obtain ⟨g3,c3,rfl⟩:=ownsRow_succ hown;have HO3:Hid (w3.ownsRow w.heap.size 53 1 (.slice (some ⟨g3,0,none⟩) (t+1) c3) (t+1) (wRow (words p 16) (t+1))):=by
          rw [wRow_next,wAt_low _ _ h16,at32_words _ _ h16];exact hown
         clear hown hgrow;go_wp2;go_roundw
         case rel=>exact ⟨t+1,_,_,by omega,rfl,rfl,HO3,HB3⟩
         case measure=>simp [intOf];omega
    · obtain ⟨g,rfl,hcell⟩:=row_word HO.out (by omega)
      obtain ⟨a2,e2,E2⟩:∃q:Nat,(t:Int) - 2=(q:Int)∧Hid (t - 2=q):=⟨t - 2,by omega,rfl⟩
      obtain ⟨a7,e7,E7⟩:∃q:Nat,(t:Int) - 7=(q:Int)∧Hid (t - 7=q):=⟨t - 7,by omega,rfl⟩
      obtain ⟨a15,e15,E15⟩:∃q:Nat,(t:Int) - 15=(q:Int)∧Hid (t - 15=q):=⟨t - 15,by omega,rfl⟩
      obtain ⟨a16,e16,E16⟩:∃q:Nat,(t:Int) - 16=(q:Int)∧Hid (t - 16=q):=⟨t - 16,by omega,rfl⟩
      have c2:=hcell a2 (by omega)
      have c7:=hcell a7 (by omega)
      have c15:=hcell a15 (by omega)
      have c16:=hcell a16 (by omega)
      have b2:(a2:Int) < (t:Int):=by omega
      have b7:(a7:Int) < (t:Int):=by omega
      have b15:(a15:Int) < (t:Int):=by omega
      have b16:(a16:Int) < (t:Int):=by omega
      clear hcell;obtain ⟨x,HX⟩:∃x,Hid (wAt (words p 16) a15=x):=⟨_,rfl⟩;obtain ⟨y,HY⟩:∃y,Hid (wAt (words p 16) a2=y):=⟨_,rfl⟩;obtain ⟨p16,H16⟩:∃x,Hid (wAt (words p 16) a16=x):=⟨_,rfl⟩;obtain ⟨p7,H7⟩:∃x,Hid (wAt (words p 16) a7=x):=⟨_,rfl⟩;rw [HX.out] at c15;rw [HY.out] at c2;rw [H16.out] at c16;rw [H7.out] at c7;have HNX:Hid (wAt (words p 16) t=p16+sig0 x+p7+sig1 y):=by
       show _=_
       rw [wAt_high _ _ (by omega),E16.out,E15.out,E7.out,E2.out,HX.out,HY.out,H16.out,H7.out]
      go_wp2;go_region
      have k16:=cell_drew c16;have k7:=cell_drew c7;have HOd:Hid (wr.drew.ownsRow w.heap.size 53 1 (.slice (some ⟨g,0,none⟩) t c) t (wRow (words p 16) t)):=own_drew HO.out;have HBd:Hid (Below w.heap.size w wr.drew):=HB.out.drew;clear c2 c15 c16 c7 HO HB;generalize wr.drew=w2 at *;go_wp2_with fail
      refine (turn7 _ _).mono ?_;rintro ee ww ⟨rfl,rfl⟩;go_wp2_with fail
      refine (turn18 _ _).mono ?_;rintro ee ww ⟨rfl,rfl⟩;go_wp2_with fail
      refine (turn17 _ _).mono ?_;rintro ee ww ⟨rfl,rfl⟩;go_wp2_with fail
      refine (turn19 _ _).mono ?_;rintro ee ww ⟨rfl,rfl⟩;go_wp2;have hw16:IntKind.i64.wrap (a16:Int)=(a16:Int):=i64in _ (by omega) (by omega)
      have hw7:IntKind.i64.wrap (a7:Int)=(a7:Int):=i64in _ (by omega) (by omega)
      have hz16:(0:Int)≤(a16:Int):=by omega
      have hz7:(0:Int)≤(a7:Int):=by omega
      have HOe:Hid (w2.drew.ownsRow w.heap.size 53 1 (.slice (some ⟨g,0,none⟩) t c) t (wRow (words p 16) t)):=own_drew HOd.out;have HBe:Hid (Below w.heap.size w w2.drew):=HBd.out.drew;have N2:Hid (t+1≤maxLen):=by show _≤_;unfold maxLen;omega
      have N3:Hid ((t+1)*4≤140737488355328):=by show _≤_;omega
      have N4:Hid (∀o,w.heap.size≤(w2.drew.alloc o).heap.size):=by intro o;have:=HBe.out.size;simp at this ⊢;omega
      clear HOd HBd;refine wp_region_noPanic ?_;refine wp_region_held_drew (S:=fun _=>True) (by kernel_rfl) trivial (fun hS=>?_)
      have k16:=cell_drew k16;have k7:=cell_drew k7;generalize w2.drew=w3 at *;clear hS;refine wpAnyH_take (i:=0) (v:=?_) (by simp only [lkA,lkB];rfl) (by kernel_rfl) (by kernel_rfl) (by kernel_rfl) (fun _ _ _ h=>h) (Or.inl ⟨by rfl,?_⟩) trivial ?_
      rotate_left 1
      · intro w hSw
        go_simp
        with_reducible rfl
      simp only [Act.put,siA,siB,siC];refine wpAnyH_take (i:=1) (v:=?_) (by simp only [lkA,lkB,lkC];rfl) (by kernel_rfl) (by kernel_rfl) (by kernel_rfl) (fun _ _ _ h=>h) (Or.inl ⟨by rfl,?_⟩) trivial ?_
      rotate_left 1
      · intro w hSw
        go_simp
        with_reducible rfl
      simp only [Act.put,siA,siB,siC];refine wpAnyH_take (i:=2) (v:=?_) (by simp only [lkA,lkB,lkC];rfl) (by kernel_rfl) (by kernel_rfl) (by kernel_rfl) (fun _ _ _ h=>h) (Or.inl ⟨by rfl,?_⟩) trivial ?_
      rotate_left 1
      · intro w hSw
        go_simp
        with_reducible rfl
      simp only [Act.put,siA,siB,siC];refine wpAnyH_take (i:=3) (v:=?_) (by simp only [lkA,lkB,lkC];rfl) (by kernel_rfl) (by kernel_rfl) (by kernel_rfl) (fun _ _ _ h=>h) (Or.inl ⟨by rfl,?_⟩) trivial ?_
      rotate_left 1
      · intro w hSw
        go_simp
        with_reducible rfl
      simp only [Act.put,siA,siB,siC];refine wpAnyH_take (i:=4) (v:=?_) (by simp only [lkA,lkB,lkC];rfl) (by kernel_rfl) (by kernel_rfl) (by kernel_rfl) (fun _ _ _ h=>h) (Or.inl ⟨by rfl,?_⟩) trivial ?_
      rotate_left 1
      · intro w hSw
        go_simp
        with_reducible rfl
      simp only [Act.put,siA,siB,siC];refine wpAnyH_take (i:=6) (v:=?_) (by simp only [lkA,lkB,lkC];rfl) (by kernel_rfl) (by kernel_rfl) (by kernel_rfl) (fun _ _ _ h=>h) (Or.inl ⟨by rfl,?_⟩) trivial ?_
      rotate_left 1
      · intro w hSw
        go_simp
        with_reducible rfl
      simp only [Act.put,siA,siB,siC];refine wpAnyH_take (i:=8) (v:=?_) (by simp only [lkA,lkB,lkC];rfl) (by kernel_rfl) (by kernel_rfl) (by kernel_rfl) (fun _ _ _ h=>h) (Or.inl ⟨by rfl,?_⟩) trivial ?_
      rotate_left 1
      · intro w hSw
        go_simp
        with_reducible rfl
      simp only [Act.put,siA,siB,siC];refine wpAnyH_take (i:=9) (v:=?_) (by simp only [lkA,lkB,lkC];rfl) (by kernel_rfl) (by kernel_rfl) (by kernel_rfl) (fun _ _ _ h=>h) (Or.inl ⟨by rfl,?_⟩) trivial ?_
      rotate_left 1
      · intro w hSw
        go_simp
        with_reducible rfl
      simp only [Act.put,siA,siB,siC];refine wpAnyH_take (i:=10) (v:=?_) (by simp only [lkA,lkB,lkC];rfl) (by kernel_rfl) (by kernel_rfl) (by kernel_rfl) (fun _ _ _ h=>h) (Or.inl ⟨by rfl,?_⟩) trivial ?_
      rotate_left 1
      · intro w hSw
        go_simp
        with_reducible rfl
      simp only [Act.put,siA,siB,siC];refine wpAnyH_take (i:=11) (v:=?_) (by simp only [lkA,lkB,lkC];rfl) (by kernel_rfl) (by kernel_rfl) (by kernel_rfl) (fun _ _ _ h=>h) (Or.inl ⟨by rfl,?_⟩) trivial ?_
      rotate_left 1
      · intro w hSw
        go_simp
        with_reducible rfl
      simp only [Act.put,siA,siB,siC];refine wpAnyH_take (i:=14) (v:=?_) (by simp only [lkA,lkB,lkC];rfl) (by kernel_rfl) (by kernel_rfl) (by kernel_rfl) (fun _ _ _ h=>h) (Or.inl ⟨by rfl,?_⟩) trivial ?_
      rotate_left 1
      · intro w hSw
        go_simp
        with_reducible rfl
      simp only [Act.put,siA,siB,siC];refine wpAnyH_ready (rs:=[5,12]) (by kernel_rfl) (by simp) ?_
      refine (AllReadyH.cons (by simp only [lkA,lkB,lkC];rfl) (fun K hK=>?_) (AllReadyH.cons (by simp only [lkA,lkB,lkC];rfl) (fun K hK=>?_) AllReadyH.nil))
      · go_simp
        refine hK.out _ _ trivial (fun hS=>?_)
        clear hK K hS;refine wpAnyH_take (i:=7) (v:=?_) (by simp only [lkA,lkB,lkC];rfl) (by kernel_rfl) (by kernel_rfl) (by kernel_rfl) (fun _ _ _ h=>h) (Or.inl ⟨by rfl,?_⟩) trivial ?_
        rotate_left 1
        · intro w hSw
          go_simp
          with_reducible rfl
        simp only [Act.put,siA,siB,siC];refine wpAnyH_ready (rs:=[12]) (by kernel_rfl) (by simp) ?_
        refine (AllReadyH.cons (by simp only [lkA,lkB,lkC];rfl) (fun K hK=>?_) AllReadyH.nil)
        go_simp;refine hK.out _ _ trivial (fun hS=>?_)
        clear hK K hS;refine wpAnyH_take (i:=13) (v:=?_) (by simp only [lkA,lkB,lkC];rfl) (by kernel_rfl) (by kernel_rfl) (by kernel_rfl) (fun _ _ _ h=>h) (Or.inl ⟨by rfl,?_⟩) trivial ?_
        rotate_left 1
        · intro w hSw
          go_simp
          with_reducible rfl
        simp only [Act.put,siA,siB,siC];refine wpAnyH_take (i:=15) (v:=?_) (by simp only [lkA,lkB,lkC];rfl) (by kernel_rfl) (by kernel_rfl) (by kernel_rfl) (fun _ _ _ h=>h) (Or.inl ⟨by rfl,?_⟩) trivial ?_
        rotate_left 1
        · intro w hSw
          go_simp
          with_reducible rfl
        simp only [Act.put,siA,siB,siC];clear hw16 hw7 hz16 hz7 k16 k7;refine wpAnyH_ready (rs:=[16]) (by kernel_rfl) (by simp) ?_
        refine (AllReadyH.cons (by simp only [lkA,lkB,lkC];rfl) (fun K hK=>?_) AllReadyH.nil)
        go_simp;refine hK.out _ _ trivial (fun hS=>?_)
        clear hK K hS;refine wpAnyH_ready (rs:=[17]) (by kernel_rfl) (by simp) ?_
        refine (AllReadyH.cons (by simp only [lkA,lkB,lkC];rfl) (fun K hK=>?_) AllReadyH.nil)
        rw [if_pos (by rfl)]
        refine wp_append_own _ _ _ 264 rfl w.heap.size 53 i0 (.int .u32 0) 1 4 Tryz.underlying264 hi hz0 hz1 hz2 rfl (by omega) _ _ _ rfl (HOe.out.alloc _) ⟨w3.heap.size,0,none⟩ 1 1 [_] rfl rfl (cell_one_new _ _ _) (one_u32 _) N2.out N3.out (N4.out _) ?_
        intro v4 w4 hown hgrow _;rw [word_num,←HNX.out,←wRow_next] at hown;have HB5:Hid (Below w.heap.size w w4):=(HBe.out.alloc HBe.out.size _).grown hgrow (N4.out _) (fun g hk=>(HOe.out.lt g hk).1)
        obtain ⟨g5,c5,rfl⟩:=ownsRow_succ hown;have HO5:=hid hown;clear hown hgrow;refine hK.out _ _ trivial (fun hS=>?_)
        clear hK K hS;simp only [Act.put,siA,siB,siC];refine wpAnyH_take (i:=18) (v:=?_) (by simp only [lkA,lkB,lkC];rfl) (by kernel_rfl) (by kernel_rfl) (by kernel_rfl) (fun _ _ _ h=>h) (Or.inl ⟨by rfl,?_⟩) trivial ?_
        rotate_left 1
        · intro w hSw
          go_simp
          with_reducible rfl
        simp only [Act.put,siA,siB,siC];refine wpAnyH_done (by kernel_rfl) ?_ _
        refine NoPanic.normal ?_;go_wp2;go_roundw
        case rel=>exact ⟨t+1,_,_,by omega,rfl,rfl,HO5,HB5⟩
        case measure=>simp [intOf];omega
      · go_simp
        refine hK.out _ _ trivial (fun hS=>?_)
        clear hK K hS;refine wpAnyH_ready (rs:=[5]) (by kernel_rfl) (by simp) ?_
        refine (AllReadyH.cons (by simp only [lkA,lkB,lkC];rfl) (fun K hK=>?_) AllReadyH.nil)
        go_simp;refine hK.out _ _ trivial (fun hS=>?_)
        clear hK K hS;refine wpAnyH_take (i:=7) (v:=?_) (by simp only [lkA,lkB,lkC];rfl) (by kernel_rfl) (by kernel_rfl) (by kernel_rfl) (fun _ _ _ h=>h) (Or.inl ⟨by rfl,?_⟩) trivial ?_
        rotate_left 1
        · intro w hSw
          go_simp
          with_reducible rfl
        simp only [Act.put,siA,siB,siC];refine wpAnyH_take (i:=13) (v:=?_) (by simp only [lkA,lkB,lkC];rfl) (by kernel_rfl) (by kernel_rfl) (by kernel_rfl) (fun _ _ _ h=>h) (Or.inl ⟨by rfl,?_⟩) trivial ?_
        rotate_left 1
        · intro w hSw
          go_simp
          with_reducible rfl
        simp only [Act.put,siA,siB,siC];refine wpAnyH_take (i:=15) (v:=?_) (by simp only [lkA,lkB,lkC];rfl) (by kernel_rfl) (by kernel_rfl) (by kernel_rfl) (fun _ _ _ h=>h) (Or.inl ⟨by rfl,?_⟩) trivial ?_
        rotate_left 1
        · intro w hSw
          go_simp
          with_reducible rfl
        simp only [Act.put,siA,siB,siC];clear hw16 hw7 hz16 hz7 k16 k7;refine wpAnyH_ready (rs:=[16]) (by kernel_rfl) (by simp) ?_
        refine (AllReadyH.cons (by simp only [lkA,lkB,lkC];rfl) (fun K hK=>?_) AllReadyH.nil)
        go_simp;refine hK.out _ _ trivial (fun hS=>?_)
        clear hK K hS;refine wpAnyH_ready (rs:=[17]) (by kernel_rfl) (by simp) ?_
        refine (AllReadyH.cons (by simp only [lkA,lkB,lkC];rfl) (fun K hK=>?_) AllReadyH.nil)
        rw [if_pos (by rfl)]
        refine wp_append_own _ _ _ 264 rfl w.heap.size 53 i0 (.int .u32 0) 1 4 Tryz.underlying264 hi hz0 hz1 hz2 rfl (by omega) _ _ _ rfl (HOe.out.alloc _) ⟨w3.heap.size,0,none⟩ 1 1 [_] rfl rfl (cell_one_new _ _ _) (one_u32 _) N2.out N3.out (N4.out _) ?_
        intro v4 w4 hown hgrow _;rw [word_num,←HNX.out,←wRow_next] at hown;have HB5:Hid (Below w.heap.size w w4):=(HBe.out.alloc HBe.out.size _).grown hgrow (N4.out _) (fun g hk=>(HOe.out.lt g hk).1)
        obtain ⟨g5,c5,rfl⟩:=ownsRow_succ hown;have HO5:=hid hown;clear hown hgrow;refine hK.out _ _ trivial (fun hS=>?_)
        clear hK K hS;simp only [Act.put,siA,siB,siC];refine wpAnyH_take (i:=18) (v:=?_) (by simp only [lkA,lkB,lkC];rfl) (by kernel_rfl) (by kernel_rfl) (by kernel_rfl) (fun _ _ _ h=>h) (Or.inl ⟨by rfl,?_⟩) trivial ?_
        rotate_left 1
        · intro w hSw
          go_simp
          with_reducible rfl
        simp only [Act.put,siA,siB,siC];refine wpAnyH_done (by kernel_rfl) ?_ _
        refine NoPanic.normal ?_;go_wp2;go_roundw
        case rel=>exact ⟨t+1,_,_,by omega,rfl,rfl,HO5,HB5⟩
        case measure=>simp [intOf];omega
  · obtain rfl:t=64:=by omega
    go_wp2;go_ret;exact ⟨_,rfl,HO.out,HB.out⟩
end Go.Proofs.YtahkcemdbfjilaaGreatDoor.Sha
namespace Go.Proofs.YtahkcemdbfjilaaGreatDoor.Sha
open Go.RowKit
def blk (P:List UInt8) (k:Nat):List UInt8:=(P.drop (64*k)).take 64
def stAt (P:List UInt8):Nat→List (BitVec 32)
 | 0=>hList
 | k+1=>foldL (stAt P k) (blk P k)
theorem stAt_len (P:List UInt8) (k:Nat):(stAt P k).length=8:=by
 cases k with
 | zero=>rfl
 | succ k=>exact sums_len _ _
theorem blk_len (P:List UInt8) (k:Nat) (h:64*(k+1)≤P.length):(blk P k).length=64:=by simp [blk];omega
theorem splice_whole (l c:List UInt8) (h:l.length=c.length):splice l 0 c=c:=by
 unfold splice;simp [←h]
theorem feed_blocks (P:List UInt8) (k:Nat):64*k≤P.length→(feed newS (P.take (64*k))).ws=stAt P k∧(feed newS (P.take (64*k))).n=64*k∧(feed newS (P.take (64*k))).ps.length=64:=by
 induction k with
 | zero=>intro _;exact ⟨by simp [feed,newS,stAt],by simp [feed,newS],by simp [feed,newS]⟩
 | succ k ih =>
  intro h;obtain ⟨h1,h2,h3⟩:=ih (by omega)
  have hb:=blk_len P k h;have e:P.take (64*(k+1))=P.take (64*k)++blk P k:=by
   rw [blk,show 64*(k+1)=64*k+64 by omega,List.take_add]
  have hm:(feed newS (P.take (64*k))).n % 64=0:=by rw [h2];omega
  have hf:=feed_full (blk P k) (feed newS (P.take (64*k))) h3 (by omega) (by omega)
  rw [e,feed_append,hf,hm,splice_whole _ _ (by rw [h3,hb]),h1,h2,hb]
  exact ⟨rfl,by show 64*k+64=64*(k+1);omega,by first | exact hb | rfl⟩
theorem padL_mod (n:Nat):(n+(padL n).length) % 64=0:=by simp [padL,padHead,lenBytes];omega
theorem sha_blocks (xs:List UInt8) (m:Nat) (h:(xs++padL xs.length).length=64*m):shaL xs=dig (stAt (xs++padL xs.length) m) 8:=by
 have hn:(feed newS xs).n=xs.length:=by rw [feed_n];show 0+_=_;omega
 unfold shaL fin;rw [hn,←feed_append];have:=(feed_blocks (xs++padL xs.length) m (by omega)).1
 rw [List.take_of_length_le (by omega)] at this
 rw [this]
def digN (ws:List (BitVec 32)):Nat→List UInt8
 | 0=>List.replicate 32 0
 | k+1=>(digN ws k).set k (byteOf (at32 ws (k / 4)) (24 - 8*(k % 4)))
theorem digYtahkcemdbfjilaaGreatDoorlen (ws:List (BitVec 32)) (k:Nat):(digN ws k).length=32:=by
 induction k with
 | zero=>simp [digN]
 | succ k ih=>rw [digN,List.length_set,ih]
theorem digYtahkcemdbfjilaaGreatDoorfour (ws:List (BitVec 32)) (k:Nat):digN ws (4*k)=dig ws k:=by
 induction k with
 | zero=>rfl
 | succ k ih =>
  rw [show 4*(k+1)=4*k+1+1+1+1 by omega]
  simp only [digN,dig,ih];rw [show 4*k / 4=k by omega,show (4*k+1) / 4=k by omega,show (4*k+1+1) / 4=k by omega,show (4*k+1+1+1) / 4=k by omega,
   show 4*k % 4=0 by omega,show (4*k+1) % 4=1 by omega,show (4*k+1+1) % 4=2 by omega,show (4*k+1+1+1) % 4=3 by omega]
def moved (l:List (BitVec 32)):Nat→List (BitVec 32)
 | 0=>l
 | j+1=>(moved l j).set (7 - j) (at32 (moved l j) (6 - j))
theorem moved_len (l:List (BitVec 32)) (j:Nat):(moved l j).length=l.length:=by
 induction j with
 | zero=>rfl
 | succ j ih=>rw [moved,List.length_set,ih]
def lst8 (s:S8):List (BitVec 32):=[s.a,s.b,s.c,s.d,s.e,s.f,s.g,s.h]
theorem moved_all (s:S8):moved (lst8 s) 7=[s.a,s.a,s.b,s.c,s.d,s.e,s.f,s.g]:=rfl
theorem moved_step (s:S8) (kk ww:BitVec 32):((moved (lst8 s) 7).set 4 (s.d+sx s kk ww)).set 0 (sx s kk ww+sy s)=lst8 (stepS s kk ww):=rfl
def raisedTo (l v:List (BitVec 32)):Nat→List (BitVec 32)
 | 0=>l
 | i+1=>(raisedTo l v i).set i (at32 (raisedTo l v i) i+at32 v i)
theorem raisedTo_len (l v:List (BitVec 32)) (i:Nat):(raisedTo l v i).length=l.length:=by
 induction i with
 | zero=>rfl
 | succ i ih=>rw [raisedTo,List.length_set,ih]
def start8 (l:List (BitVec 32)):S8:=⟨at32 l 0,at32 l 1,at32 l 2,at32 l 3,at32 l 4,at32 l 5,at32 l 6,at32 l 7⟩
theorem raised_row (l:List (BitVec 32)) (hl:l.length=8) (R:S8):raisedTo l (lst8 R) 8=sums l R:=by
 match l,hl with
 | [a,b,c,d,e,f,g,h],_=>simp [raisedTo,lst8,sums,at32]
theorem raised_all (l:List (BitVec 32)) (hl:l.length=8) (p:List UInt8):raisedTo l (lst8 (run8 (words p 16) (start8 l) 64)) 8=foldL l p:=by
 have e:foldL l p=sums l (run8 (words p 16) (start8 l) 64):=by unfold foldL start8;rfl
 rw [e];generalize run8 (words p 16) (start8 l) 64=R;clear e;exact raised_row l hl R
def copied (l:List (BitVec 32)):Nat→List (BitVec 32)
 | 0=>List.replicate 8 0
 | i+1=>(copied l i).set i (at32 l i)
theorem copied_len (l:List (BitVec 32)) (i:Nat):(copied l i).length=8:=by
 induction i with
 | zero=>simp [copied]
 | succ i ih=>rw [copied,List.length_set,ih]
theorem copied_all (l:List (BitVec 32)):copied l 8=lst8 (start8 l):=rfl
end Go.Proofs.YtahkcemdbfjilaaGreatDoor.Sha
namespace Go.Proofs.YtahkcemdbfjilaaGreatDoor
open Go.RowKit
def M64:Nat:=18446744073709551616
theorem wrapM (x:Nat):IntKind.u64.wrap (x:Int)=((x % M64:Nat):Int):=by
 simp [IntKind.wrap,IntKind.signed,IntKind.bits,M64]
def timesN (hi lo x:Nat):Nat × Nat:=((lo*x / M64+hi*x % M64) % M64,lo*x % M64)
def aboveN (hi lo n b:Nat):Bool:=decide (n*2 ^ b % M64 < hi)||(decide (hi=n*2 ^ b % M64)&&decide (0 < lo))
theorem mul64_any (x y:Nat) (hx:x < M64) (hy:y < M64) (w:World):Calls Tryz.prog 269 #[.int .u64 (x:Int),.int .u64 (y:Int)] w fun e w'=>e=.returned (.tuple #[.int .u64 ((x*y / M64:Nat):Int),.int .u64 ((x*y % M64:Nat):Int)])∧w=w' :=
 (Tryz.bits_Mul64 x y hx hy w).mono fun _ _ ⟨a,b⟩=>⟨a,b.symm⟩
set_option maxHeartbeats 400000 in
theorem times_any (hi lo x:Nat) (_h1:hi < M64) (h2:lo < M64) (h3:x < M64) (w:World) :
 Calls Tryz.prog 235 #[.int .u64 (hi:Int),.int .u64 (lo:Int),.int .u64 (x:Int)] w fun e w'=>e=.returned (.tuple #[.int .u64 ((timesN hi lo x).1:Int),.int .u64 ((timesN hi lo x).2:Int)])∧w=w':=by
 obtain ⟨q,HQ⟩:∃q,Hid (lo*x / M64=q):=⟨_,rfl⟩;obtain ⟨r,HR⟩:∃r,Hid (lo*x % M64=r):=⟨_,rfl⟩;have HC:Hid (∀W,Calls Tryz.prog 269 #[.int .u64 (lo:Int),.int .u64 (x:Int)] W fun e w'=>e=.returned (.tuple #[.int .u64 (q:Int),.int .u64 (r:Int)])∧W=w'):=by
  intro W;rw [←HQ.out,←HR.out];exact mul64_any lo x h2 h3 W
 obtain ⟨m,HM⟩:∃m,Hid (hi*x % M64=m):=⟨_,rfl⟩;obtain ⟨t,HT⟩:∃t,Hid ((q+m) % M64=t):=⟨_,rfl⟩;have HV:Hid (timesN hi lo x=(t,r)):=by show _=_;rw [timesN,HQ.out,HR.out,HM.out,HT.out]
 have w1:IntKind.u64.wrap ((hi:Int)*(x:Int))=(m:Int):=by rw [←HM.out,←wrapM];congr 1
 have w2:IntKind.u64.wrap ((q:Int)+(m:Int))=(t:Int):=by rw [←HT.out,←wrapM];congr 1
 clear h2 h3;go_enter Tryz.func235,Tryz.ntmps235
 go_wp2_with (go_at_call 269;refine (HC.out _).mono ?_;rintro e1 w1 ⟨rfl,rfl⟩)
 go_ret2;exact ⟨by rw [HV.out];rfl,rfl⟩
theorem timesYtahkcemdbfjilaaGreatDoorlt (hi lo x:Nat):(timesN hi lo x).1 < M64∧(timesN hi lo x).2 < M64:=⟨Nat.mod_lt _ (by decide),Nat.mod_lt _ (by decide)⟩
set_option maxHeartbeats 400000 in
theorem above_any (hi lo n b:Nat) (h4:b < 64) (w:World) :
 Calls Tryz.prog 236 #[.int .u64 (hi:Int),.int .u64 (lo:Int),.int .u64 (n:Int),.int .i64 (b:Int)] w fun e w'=>e=.returned (.bool (aboveN hi lo n b))∧w=w':=by
 obtain ⟨z,HZ⟩:∃z,Hid (n*2 ^ b % M64=z):=⟨_,rfl⟩;have w1:IntKind.u64.wrap ((n:Int)*2 ^ b)=(z:Int):=by rw [←HZ.out,←wrapM];congr 1
 have HV:Hid (aboveN hi lo n b=(decide (z < hi)||(decide (hi=z)&&decide (0 < lo)))):=by show _=_;rw [aboveN,HZ.out]
 rcases Nat.lt_trichotomy z hi with c | c | c
 · have t1:decide (z < hi)=true:=by simp [c]
   have HV2:Hid (aboveN hi lo n b=true):=by show _=_;rw [HV.out];simp [c]
   clear HV c;go_enter Tryz.func236,Tryz.ntmps236
   go_wp2;go_ret;exact ⟨ret_bool HV2.out.symm,rfl⟩
 · subst c
   by_cases hl:0 < lo
   · have t1:(0:Int) < (lo:Int):=by omega
     have HV2:Hid (aboveN z lo n b=true):=by show _=_;rw [HV.out];simp [hl]
     clear HV;go_enter Tryz.func236,Tryz.ntmps236
     go_wp2;go_ret;exact ⟨ret_bool (by rw [HV2.out]),rfl⟩
   · have t1:¬(0:Int) < (lo:Int):=by omega
     have HV2:Hid (aboveN z lo n b=false):=by show _=_;rw [HV.out];simp;omega
     clear HV;go_enter Tryz.func236,Tryz.ntmps236
     go_wp2;go_ret;exact ⟨ret_bool (by rw [HV2.out]),rfl⟩
 · have t1:decide (z < hi)=false:=by simp;omega
   have t2:((hi:Int) == (z:Int))=false:=by simp;omega
   have HV2:Hid (aboveN hi lo n b=false):=by show _=_;rw [HV.out];simp;omega
   clear HV c;go_enter Tryz.func236,Tryz.ntmps236
   go_wp2;go_ret;exact ⟨ret_bool HV2.out.symm,rfl⟩
theorem ret_u32 {a b:Int} (h:a=b):Ending.returned (.int .u32 a)=.returned (.int .u32 b):=by rw [h]
def sqStep (p r b:Nat):Nat:=let x:=(r+2 ^ b) % M64;let t:=timesN 0 x x;if aboveN t.1 t.2 p 0 then r else x
def sqUp (p:Nat):Nat→Nat
 | 0=>0
 | k+1=>sqStep p (sqUp p k) (36 - k)
set_option maxHeartbeats 400000 in
theorem square_any (p:Nat) (_hp:p < 1000) (w:World):Calls Tryz.prog 199 #[.int .u64 (p:Int)] w fun e w'=>e=.returned (.int .u32 ((sqUp p 37 % 4294967296:Nat):Int))∧w=w':=by
 go_enter Tryz.func199,Tryz.ntmps199
 go_wp2;go_loopw [3,4] (fun v i wr=>∃(k r:Nat) (q:Int),k≤37∧v=.int .u64 (r:Int)∧i=.int .i64 q∧Hid (q=36 - (k:Int))∧Hid (r=sqUp p k)∧r < M64∧w=wr) (fun _ i _=>(intOf i+1).toNat)
 case atStart=>exact ⟨0,0,36,by omega,rfl,rfl,rfl,rfl,by decide,rfl⟩
 case round =>
  obtain ⟨k,r,q,hk,rfl,rfl,HQ,HR,hr,rfl⟩:=hrel;by_cases hlt:k < 37
  · obtain ⟨b,rfl⟩:∃b:Nat,q=(b:Int):=⟨36 - k,by have:=HQ.out;omega⟩
    have hb0:(0:Int)≤(b:Int):=by omega
    have hb1:(b:Int)≤36:=by have:=HQ.out;omega
    obtain ⟨x,HX⟩:∃x,Hid ((r+2 ^ b) % M64=x):=⟨_,rfl⟩;have hx:x < M64:=by rw [←HX.out];exact Nat.mod_lt _ (by decide)
    obtain ⟨e,HE⟩:∃e:Nat,Hid (2 ^ b=e):=⟨_,rfl⟩;have he:e < M64:=by rw [←HE.out];exact Nat.lt_of_le_of_lt (Nat.pow_le_pow_right (by omega) (show b≤36 by omega)) (by decide)
    have w1:IntKind.u64.wrap (2 ^ b)=(e:Int):=by
     have:=wrapM e;rw [Nat.mod_eq_of_lt he,←HE.out] at this;rw [←HE.out,←this];congr 1
    have w2:IntKind.u64.wrap ((r:Int)+(e:Int))=(x:Int):=by rw [←HX.out,HE.out,←wrapM];congr 1
    obtain ⟨h,l,HT⟩:∃h l,Hid (timesN 0 x x=(h,l)):=⟨_,_,rfl⟩;obtain ⟨v,HA⟩:∃v,Hid (aboveN h l p 0=v):=⟨_,rfl⟩;have C1:Hid (∀W,Calls Tryz.prog 235 #[.int .u64 0,.int .u64 (x:Int),.int .u64 (x:Int)] W fun e w'=>e=.returned (.tuple #[.int .u64 (h:Int),.int .u64 (l:Int)])∧W=w'):=by
     intro W;have:=times_any 0 x x (by decide) hx hx W;rw [HT.out] at this;exact this
    have C2:Hid (∀W,Calls Tryz.prog 236 #[.int .u64 (h:Int),.int .u64 (l:Int),.int .u64 (p:Int),.int .i64 0] W fun e w'=>e=.returned (.bool v)∧W=w'):=by
     intro W;have:=above_any h l p 0 (by omega) W;rw [HA.out] at this;exact this
    have HS:Hid (sqUp p (k+1)=if v then r else x):=by
     have hq:=HQ.out;show sqStep p (sqUp p k) (36 - k)=_
     rw [←HR.out,show 36 - k=b by omega,sqStep,HX.out]
     simp only [HT.out,HA.out]
    clear he
    cases v with
    | true =>
     have HS2:Hid (r=sqUp p (k+1)):=by show _=_;rw [HS.out];rfl
     go_wp2_with fail
     refine (C1.out _).mono ?_;rintro e1 w1 ⟨rfl,rfl⟩;go_wp2_with fail
     refine (C2.out _).mono ?_;rintro e2 w2 ⟨rfl,rfl⟩;go_wp2;go_roundw
     case rel=>exact ⟨k+1,r,_,by omega,rfl,rfl,by show _=_;have:=HQ.out;omega,HS2,hr,trivial⟩
     case measure=>simp [intOf]
    | false =>
     have HS2:Hid (x=sqUp p (k+1)):=by show _=_;rw [HS.out];rfl
     go_wp2_with fail
     refine (C1.out _).mono ?_;rintro e1 w1 ⟨rfl,rfl⟩;go_wp2_with fail
     refine (C2.out _).mono ?_;rintro e2 w2 ⟨rfl,rfl⟩;go_wp2;go_roundw
     case rel=>exact ⟨k+1,x,_,by omega,rfl,rfl,by show _=_;have:=HQ.out;omega,HS2,hx,trivial⟩
     case measure=>simp [intOf]
  · obtain rfl:k=37:=by omega
    have hq:q < 0:=by have:=HQ.out;omega
    have HV:Hid (IntKind.u32.wrap (r:Int)=((sqUp p 37 % 4294967296:Nat):Int)):=by
     show _=_;rw [HR.out];simp [IntKind.wrap,IntKind.signed,IntKind.bits]
    go_wp2;go_ret;exact ⟨ret_u32 HV.out,rfl⟩
def cuStep (p r b:Nat):Nat:=let x:=(r+2 ^ b) % M64;let t:=timesN 0 x x;let t:=timesN t.1 t.2 x;if aboveN t.1 t.2 p 32 then r else x
def cuUp (p:Nat):Nat→Nat
 | 0=>0
 | k+1=>cuStep p (cuUp p k) (35 - k)
set_option maxHeartbeats 400000 in
theorem cube_any (p:Nat) (_hp:p < 1000) (w:World):Calls Tryz.prog 198 #[.int .u64 (p:Int)] w fun e w'=>e=.returned (.int .u32 ((cuUp p 36 % 4294967296:Nat):Int))∧w=w':=by
 go_enter Tryz.func198,Tryz.ntmps198
 go_wp2;go_loopw [3,4] (fun v i wr=>∃(k r:Nat) (q:Int),k≤36∧v=.int .u64 (r:Int)∧i=.int .i64 q∧Hid (q=35 - (k:Int))∧Hid (r=cuUp p k)∧r < M64∧w=wr) (fun _ i _=>(intOf i+1).toNat)
 case atStart=>exact ⟨0,0,35,by omega,rfl,rfl,rfl,rfl,by decide,rfl⟩
 case round =>
  obtain ⟨k,r,q,hk,rfl,rfl,HQ,HR,hr,rfl⟩:=hrel;by_cases hlt:k < 36
  · obtain ⟨b,rfl⟩:∃b:Nat,q=(b:Int):=⟨35 - k,by have:=HQ.out;omega⟩
    have hb0:(0:Int)≤(b:Int):=by omega
    have hb1:(b:Int)≤35:=by have:=HQ.out;omega
    obtain ⟨x,HX⟩:∃x,Hid ((r+2 ^ b) % M64=x):=⟨_,rfl⟩;have hx:x < M64:=by rw [←HX.out];exact Nat.mod_lt _ (by decide)
    obtain ⟨e,HE⟩:∃e:Nat,Hid (2 ^ b=e):=⟨_,rfl⟩;have he:e < M64:=by rw [←HE.out];exact Nat.lt_of_le_of_lt (Nat.pow_le_pow_right (by omega) (show b≤35 by omega)) (by decide)
    have w1:IntKind.u64.wrap (2 ^ b)=(e:Int):=by
     have:=wrapM e;rw [Nat.mod_eq_of_lt he,←HE.out] at this;rw [←HE.out,←this];congr 1
    have w2:IntKind.u64.wrap ((r:Int)+(e:Int))=(x:Int):=by rw [←HX.out,HE.out,←wrapM];congr 1
    obtain ⟨h0,l0,HT0⟩:∃h l,Hid (timesN 0 x x=(h,l)):=⟨_,_,rfl⟩;obtain ⟨h,l,HT⟩:∃h l,Hid (timesN h0 l0 x=(h,l)):=⟨_,_,rfl⟩;have hh:h0 < M64:=by have:=(timesYtahkcemdbfjilaaGreatDoorlt 0 x x).1;rw [HT0.out] at this;exact this
    have hl:l0 < M64:=by have:=(timesYtahkcemdbfjilaaGreatDoorlt 0 x x).2;rw [HT0.out] at this;exact this
    obtain ⟨v,HA⟩:∃v,Hid (aboveN h l p 32=v):=⟨_,rfl⟩;have C0:Hid (∀W,Calls Tryz.prog 235 #[.int .u64 0,.int .u64 (x:Int),.int .u64 (x:Int)] W fun e w'=>e=.returned (.tuple #[.int .u64 (h0:Int),.int .u64 (l0:Int)])∧W=w'):=by
     intro W;have:=times_any 0 x x (by decide) hx hx W;rw [HT0.out] at this;exact this
    have C1:Hid (∀W,Calls Tryz.prog 235 #[.int .u64 (h0:Int),.int .u64 (l0:Int),.int .u64 (x:Int)] W fun e w'=>e=.returned (.tuple #[.int .u64 (h:Int),.int .u64 (l:Int)])∧W=w'):=by
     intro W;have:=times_any h0 l0 x hh hl hx W;rw [HT.out] at this;exact this
    have C2:Hid (∀W,Calls Tryz.prog 236 #[.int .u64 (h:Int),.int .u64 (l:Int),.int .u64 (p:Int),.int .i64 32] W fun e w'=>e=.returned (.bool v)∧W=w'):=by
     intro W;have:=above_any h l p 32 (by omega) W;rw [HA.out] at this;exact this
    have HS:Hid (cuUp p (k+1)=if v then r else x):=by
     have hq:=HQ.out;show cuStep p (cuUp p k) (35 - k)=_
     rw [←HR.out,show 35 - k=b by omega,cuStep,HX.out]
     simp only [HT0.out,HT.out,HA.out]
    clear he hh hl
    cases v with
    | true =>
     have HS2:Hid (r=cuUp p (k+1)):=by show _=_;rw [HS.out];rfl
     go_wp2_with fail
     refine (C0.out _).mono ?_;rintro e0 w0 ⟨rfl,rfl⟩;go_wp2_with fail
     refine (C1.out _).mono ?_;rintro e1 w1 ⟨rfl,rfl⟩;go_wp2_with fail
     refine (C2.out _).mono ?_;rintro e2 w2 ⟨rfl,rfl⟩;go_wp2;go_roundw
     case rel=>exact ⟨k+1,r,_,by omega,rfl,rfl,by show _=_;have:=HQ.out;omega,HS2,hr,trivial⟩
     case measure=>simp [intOf]
    | false =>
     have HS2:Hid (x=cuUp p (k+1)):=by show _=_;rw [HS.out];rfl
     go_wp2_with fail
     refine (C0.out _).mono ?_;rintro e0 w0 ⟨rfl,rfl⟩;go_wp2_with fail
     refine (C1.out _).mono ?_;rintro e1 w1 ⟨rfl,rfl⟩;go_wp2_with fail
     refine (C2.out _).mono ?_;rintro e2 w2 ⟨rfl,rfl⟩;go_wp2;go_roundw
     case rel=>exact ⟨k+1,x,_,by omega,rfl,rfl,by show _=_;have:=HQ.out;omega,HS2,hx,trivial⟩
     case measure=>simp [intOf]
  · obtain rfl:k=36:=by omega
    have hq:q < 0:=by have:=HQ.out;omega
    have HV:Hid (IntKind.u32.wrap (r:Int)=((cuUp p 36 % 4294967296:Nat):Int)):=by
     show _=_;rw [HR.out];simp [IntKind.wrap,IntKind.signed,IntKind.bits]
    go_wp2;go_ret;exact ⟨ret_u32 HV.out,rfl⟩
end Go.Proofs.YtahkcemdbfjilaaGreatDoor
