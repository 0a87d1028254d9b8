/- Texts. Conditions: as said. -/
import Derived.Test.YtahkcemdbfjilaaGreatDoorFj00
import Derived.Test.YtahkcemdbfjilaaGreatDoorFj13
set_option linter.all false
set_option maxRecDepth 100000
set_option maxHeartbeats 32000000
namespace Go.Proofs.YtahkcemdbfjilaaGreatDoor.Glob
open Go.RowKit
def cX (s p:By) (w:World) :
 qC 148 #[.string (ba s),.string (ba p)] w fun e w'=>e=.returned (.bool (pre p s))/\w=w':=by
 have z1:=aD s;have z2:=aD p;have HP:=hid (vI p s);by_cases h:p.length<=s.length
 . go_enter Tryz.func148,Tryz.ntmps148
   go_wp2;go_ret;exact ⟨aF (by rw [HP.o,bH,gU,bH]),rfl⟩
 go_enter Tryz.func148,Tryz.ntmps148
 go_wp2;go_ret;refine ⟨aF ?_,rfl⟩
 cases hb:pre p s with
 | false=>rfl
 | true=>exact absurd (bU hb) h
def wrL (s:By):Option (UInt8 × By) :=
 let t:=cA [92] s
 if t.length=0 then none else if at8 t 0 == 47 then none else some (at8 t 0,t.drop 1)
def Et (s:By):wrL s=match dA s with | none=>none | some (c,r)=>if c == 47 then none else some (c,r):=by
 have e:dA s=if (cA [92] s).length=0 then none else if pre [92] s&&(at8 (cA [92] s) 0 == 47) then none else some (at8 (cA [92] s) 0,(cA [92] s).drop 1):=rfl
 rw [e];unfold wrL;simp only;generalize cA [92] s=t;generalize pre [92] s=b;by_cases h:t.length=0
 . rw [if_pos h,if_pos h]
 rw [if_neg h,if_neg h]
 cases h7:at8 t 0 == 47 with
 | false=>simp [h7]
 | true=>cases b<;>simp [h7]
def Hk {s:By} {c:UInt8} {r:By} (h:wrL s=some (c,r)):r.length < s.length:=by
 rw [Et] at h
 cases PV:dA s with
 | none=>rw [PV] at h;cases h
 | some y =>
  obtain ⟨d,u⟩:=y;rw [PV] at h;simp only at h;split at h
  . cases h
  simp only [Option.some.injEq,Prod.mk.injEq] at h;rw [<-h.2];exact uD PV
def uG (s:By):Option (Rg × By) :=
 match wrL s with
 | none=>none
 | some (lo,r) =>
  if decide (1 < r.length)&&(at8 r 0 == 45)&&!(at8 r 1 == 93) then
   match wrL (r.drop 1) with
   | none=>none
   | some (hi,r2)=>if decide (hi.toNat < lo.toNat) then none else some ((lo,hi),r2)
  else some ((lo,lo),r)
def Um (s:By):bJ s=uG s:=by
 unfold bJ uG;rw [Et]
 cases dA s with
 | none=>rfl
 | some y =>
  obtain ⟨lo,r⟩:=y;simp only
  cases h7:lo == 47 with
  | true =>
   simp only [if_true,Bool.not_true,Bool.and_false,Bool.false_and];split
   . split
     . rfl
     simp
   simp
  | false =>
   simp only [Bool.false_eq_true,if_false,Bool.not_false,Bool.and_true];split
   .
    rw [Et]
    cases dA (r.drop 1) with
    | none=>rfl
    | some y =>
     obtain ⟨hi,r2⟩:=y;simp only
     cases h8:hi == 47 with
     | true=>simp
     | false =>
      simp only [Bool.not_false,Bool.and_true,Bool.false_eq_true,if_false];by_cases hh:hi.toNat < lo.toNat
      . rw [decide_eq_true hh,decide_eq_false (show ¬lo.toNat<=hi.toNat by omega)];rfl
      rw [decide_eq_false hh,decide_eq_true (show lo.toNat<=hi.toNat by omega)];rfl
   simp
def Ee (s:By) (w:World) :
 qC 186 #[.string (ba s)] w fun e w'=>e=.returned (rK (wrL s))/\∃n,w'=w.drewN n:=by
 have z:=aD s;obtain ⟨t,ht⟩:=qY (cA [92] s);have HE:Hid (wrL s=if t.length=0 then none else if at8 t 0 == 47 then none else some (at8 t 0,t.drop 1)):=by subst ht;rfl
 have zt:=aD t;have HD:=hid (aR t 1);have qy:Hid (∀(W:World),0 < t.length->(Instr.index 9 (.string (ba t)) (.int .i64 0)).run Tryz.prog W=.ok (.int .u8 (b8 (at8 t 0))) W):=fun W h=>dL t h W
 have q7:=aL (at8 t 0) 47;rw [show b8 47=47 from rfl] at q7
 cases hb:pre [92] s with
 | false =>
  have e:t=s:=by rw [<-ht];unfold cA;rw [hb];rfl
  subst e;have yf:=yW 92 t;rw [hb] at yf;clear ht hb zt;by_cases h0:t.length=0
  .
   have g0:((t.length:Int) == 0)=true:=by simp [h0]
   have HN:Hid (wrL t=none):=HE.o.trans (if_pos h0);clear yf h0 HE;go_enter Tryz.func186,Tryz.ntmps186
   go_wp2;refine bodyPost_ret (results_tmp3 rfl _ _ _) rfl ⟨?_,0,rfl⟩;rw [HN.o];rfl
  have g0:((t.length:Int) == 0)=false:=by simp;intro h;exact h0 (by rw [h];rfl)
  have g1:(0:Int) < (t.length:Int):=by omega
  have i0:=qy.o;have i0':∀(W:World),(Instr.index 9 (.string (ba t)) (.int .i64 0)).run Tryz.prog W=.ok (.int .u8 (b8 (at8 t 0))) W:=fun W=>i0 W (by omega)
  have q9:(b8 (at8 t 0) == 92)=false:=by
   rw [show (92:Int)=b8 92 from rfl,aL];have:decide (t=[])=false:=by simp;rintro rfl;exact h0 rfl
   rw [this] at yf;simpa using yf.symm
  have HN:Hid (wrL t=if at8 t 0 == 47 then none else some (at8 t 0,t.drop 1)):=HE.o.trans (if_neg h0);clear qy i0 yf h0 HE;generalize at8 t 0=x at *;obtain ⟨bq,sl⟩:=qY ((x == 47));rw [sl] at q7 HN;clear sl
  cases bq with
  | true =>
   go_enter Tryz.func186,Tryz.ntmps186
   go_wp2;refine bodyPost_ret (results_tmp3 rfl _ _ _) rfl ⟨?_,0,rfl⟩;rw [HN.o];rfl
  | false =>
   go_enter Tryz.func186,Tryz.ntmps186
   go_wp2;go_quiet (fail)
   go_wp2;refine bodyPost_ret (results_tmp3 rfl _ _ _) rfl ⟨?_,_,rfl⟩;rw [HN.o];simp [rK,HD.o]
 | true =>
  have e:t=s.drop 1:=by rw [<-ht];unfold cA;rw [hb];rfl
  have y7:1<=s.length:=by have:=bU hb;simpa using this
  have yf:=yW 92 s;rw [hb] at yf;have g1:(0:Int) < (s.length:Int):=by omega
  have gh1:(1:Int)<=(s.length:Int):=by omega
  have i1:=dL s (by omega);have q9:(b8 (at8 s 0) == 92)=true:=by
   rw [show (92:Int)=b8 92 from rfl,aL];simp only [Bool.and_eq_true,Bool.true_eq] at yf;exact yf.2
  have zd:=aR s 1;rw [<-e] at zd;clear e ht hb yf;generalize at8 s 0=y at *;by_cases h0:t.length=0
  .
   have g0:((t.length:Int) == 0)=true:=by simp [h0]
   have HN:Hid (wrL s=none):=HE.o.trans (if_pos h0);clear h0 HE;go_enter Tryz.func186,Tryz.ntmps186
   go_wp2;refine bodyPost_ret (results_tmp3 rfl _ _ _) rfl ⟨?_,0,rfl⟩;rw [HN.o];rfl
  have g0:((t.length:Int) == 0)=false:=by simp;intro h;exact h0 (by rw [h];rfl)
  have g3:(0:Int) < (t.length:Int):=by omega
  have i0:=qy.o;have i0':∀(W:World),(Instr.index 9 (.string (ba t)) (.int .i64 0)).run Tryz.prog W=.ok (.int .u8 (b8 (at8 t 0))) W:=fun W=>i0 W (by omega)
  have HN:Hid (wrL s=if at8 t 0 == 47 then none else some (at8 t 0,t.drop 1)):=HE.o.trans (if_neg h0);clear qy i0 h0 HE;generalize at8 t 0=x at *;obtain ⟨bq,sl⟩:=qY ((x == 47));rw [sl] at q7 HN;clear sl
  cases bq with
  | true =>
   go_enter Tryz.func186,Tryz.ntmps186
   go_wp2;refine bodyPost_ret (results_tmp3 rfl _ _ _) rfl ⟨?_,0,rfl⟩;rw [HN.o];rfl
  | false =>
   go_enter Tryz.func186,Tryz.ntmps186
   go_wp2;go_quiet (fail)
   go_wp2;refine bodyPost_ret (results_tmp3 rfl _ _ _) rfl ⟨?_,_,rfl⟩;rw [HN.o];simp [rK,HD.o]
def Zu:(Tryz.prog.info? 283).map (fun i=>(i.zero,i.size,i.bytes))=some (some (.agg #[.int .u8 0,.int .u8 0]),2,2):=by kernel_rfl
def Rgs (B:Nat) (w:World) (v:Value) (rs:List Rg):Prop:=w.ownsRow B 283 2 v rs.length (gR rs)
def Rgs.form {B:Nat} {w:World} {v:Value} {rs:List Rg} (h:Rgs B w v rs):∃A c,v=.slice A rs.length c:=by
 rcases h.2 with ⟨h1,h2⟩ | ⟨g,c,cur,h1,_⟩
 . exact ⟨none,0,by rw [h1,h2]⟩
 exact ⟨some ⟨g,0,none⟩,c,h1⟩
def Rgs.stays {B:Nat} {w w':World} {v:Value} {rs:List Rg} (h:Rgs B w v rs) (hb:qW w w'):Rgs B w' v rs:=by
 refine ⟨h.1,?_⟩;rcases h.2 with h1 | ⟨g,c,cur,h1,hB,h3,h4⟩
 . exact .inl h1
 exact .inr ⟨g,c,cur,h1,hB,(hb.block g (Array.getElem?_eq_some_iff.1 h3).1).trans h3,h4⟩
def Rgs.mono {B B':Nat} {w:World} {v:Value} {rs:List Rg} (h:Rgs B w v rs) (hb:B'<=B):Rgs B' w v rs:=by
 refine ⟨h.1,?_⟩;rcases h.2 with h1 | ⟨g,c,cur,h1,hB,h3⟩
 . exact .inl h1
 exact .inr ⟨g,c,cur,h1,by omega,h3⟩
def Rgs.put {B:Nat} {w:World} {v:Value} {rs:List Rg} (h:Rgs B w v rs) {g:Nat} {t:TypeId} {cs:Array Value} (hg:Has w g t cs) (ht:t≠283) (i:Nat) (u:Value):Rgs B (w.setCell ⟨g,i,none⟩ u) v rs:=by
 refine ⟨h.1,?_⟩;rcases h.2 with h1 | ⟨k,c,cur,h1,hB,h3,h4⟩
 . exact .inl h1
 refine .inr ⟨k,c,cur,h1,hB,?_,h4⟩;have hk:Has w k 283 cur:=h3;refine hk.other (p:=⟨g,i,none⟩) (fun e=>?_) u;subst e;have:=Option.some.inj (hk.symm.trans hg);simp only [Obj.cells.injEq] at this;exact ht this.2.1.symm
def Rgs.putRow {B:Nat} {w:World} {v:Value} {rs:List Rg} (h:Rgs B w v rs) {g:Nat} {t:TypeId} {cs:Array Value} (hg:Has w g t cs) (ht:t≠283) (cs':Array Value):Rgs B (w.setRow g cs') v rs:=by
 refine ⟨h.1,?_⟩;rcases h.2 with h1 | ⟨k,c,cur,h1,hB,h3,h4⟩
 . exact .inl h1
 refine .inr ⟨k,c,cur,h1,hB,?_,h4⟩;have hk:Has w k 283 cur:=h3;refine hk.rowOther (fun e=>?_);subst e;have:=Option.some.inj (hk.symm.trans hg);simp only [Obj.cells.injEq] at this;exact ht this.2.1.symm
def Has.grown {B:Nat} {w w':World} {e:TypeId} {s n:Nat} {v:Value} {xs:List Value} (ho:w.ownsRow B e s v n xs) (hg:w.grownBy w' v.ownBlock) {g:Nat} {t:TypeId} {cs:Array Value} (h:Has w g t cs) (ht:t≠e):Has w' g t cs:=by
 refine (hg.block g h.inside fun e'=>?_).trans h;obtain ⟨cs',q,h2⟩:=fF ho g e'.symm;have:=Option.some.inj (h.symm.trans h2);simp only [Obj.cells.injEq] at this;exact ht this.2.1
def zN (w:World) (B:Nat) (v:Value) (rs:List Rg) (h:Rgs B w v rs) (r:Rg) (a:Addr) (h0:w.cell? (a.add 0)=some (.int .u8 (b8 r.1))) (h1:w.cell? (a.add 1)=some (.int .u8 (b8 r.2))) (hn:rs.length<=1000) (hB:B<=w.heap.size) (ty:TypeId) :
 ∃v' w',(Builtin.append_ #[216,216] ty #[v,.slice (some a) 1 1]).run Tryz.prog w=.ok v' w'/\Rgs B w' v' (rs++[r])/\(∀a0 B0,B0<=B->Below B0 a0 w->Below B0 a0 w')/\∀g t cs,t≠283->Has w g t cs->Has w' g t cs:=by
 obtain ⟨i0,hi,o7,g8,j5⟩:=info_parts Zu;obtain ⟨v',w',hr,ny,hg,_,_⟩:=run_append_own_at (P:=Tryz.prog) w B 216 ty 283 i0 (.agg #[.int .u8 0,.int .u8 0]) 2 2 Tryz.underlying216 hi o7 g8 j5 rfl (by omega) v rs.length (gR rs) h a 1 1 [.int .u8 (b8 r.1),.int .u8 (b8 r.2)] rfl (fun j u' hj=>by
  match j,hj with
  | 0,hj=>obtain rfl:=Option.some.inj hj;exact h0
  | 1,hj=>obtain rfl:=Option.some.inj hj;exact h1
  | j+2,hj=>simp at hj) (fun x hx=>by simp only [List.mem_cons,List.not_mem_nil,or_false] at hx;rcases hx with rfl | rfl<;>rfl) (by unfold maxLen;omega) (by omega) hB
 refine ⟨v',w',hr,?_,fun a0 B0 h0 ha=>Below.grown ha hg (by omega) (fun k hk=>by have:=pJ h k hk;omega),fun g t cs ht hh=>Has.grown h hg hh ht⟩;unfold Rgs;rw [rP,List.length_append];exact ny
def lY:(Tryz.prog.info? 218).map (·.size)=some 4:=by kernel_rfl
def eD {w:World} {g:Nat} {a b c d:Value} (k:Has w g 218 #[a,b,c,d]):(loadVar 218 ⟨g,0,none⟩).run Tryz.prog w=.ok (.agg #[a,b,c,d]) w :=
 run_loadVar_row (P:=Tryz.prog) w g 218 218 #[a,b,c,d] (0,0) _ k Tryz.underlying218 rfl lY
abbrev zeroE:Array Value:=#[.int .i64 0,.int .u8 0,.bool false,.slice none 0 0]
def tO (neg:Bool) (A:Option Addr) (n c:Nat):(#[.int .i64 4,.int .u8 0,.bool neg,.slice A n c]:Array Value).all (·.oneCell')=true:=by simp [Value.oneCell']
def Yv (s:By) (e:Ending) (w':World):Prop :=
 ∃neg A n c r ok,e=.returned (.tuple #[.agg #[.int .i64 4,.int .u8 0,.bool neg,.slice A n c],.string (ba r),.bool ok]) /\
  ((clsL s=none/\ok=false)∨∃rs,clsL s=some (.set neg rs,r)/\ok=true/\Rgs 0 w' (.slice A n c) rs)
def Li (s:By) (w:World) (hs:s.length<=128) :
 qC 185 #[.string (ba s)] w fun e w'=>Yv s e w'/\qW w w':=by
 obtain ⟨t0,DX⟩:∃t,t=cA [33] s:=⟨_,rfl⟩;obtain ⟨neg,qo⟩:=qY (pre [33] s);have uf:t0.length<=128:=by have:=pV [33] s;rw [DX];omega
 have hc:∀W,qC 148 #[.string (ba s),.string ⟨#[33]⟩] W fun e w'=>e=.returned (.bool neg)/\W=w':=by
  intro W;have:=cX s [33] W;rw [qo] at this;exact this
 have HC:Hid (clsL s=match eY t0 [] with | none=>none | some (rs,r)=>some (.set neg rs,r)):=by subst DX;subst qo;rfl
 have z:=aD s;have vp:Hid (t0=if neg then s.drop 1 else s):=by subst DX;subst qo;rfl
 have y7:neg=true->(1:Int)<=(s.length:Int):=fun h=>by have:=bU (qo.trans h);simp at this;omega
 have zd:=aR s 1;obtain ⟨goal,HG⟩:=qX (clsL s);rw [HG.o] at HC;obtain ⟨W1,p3⟩:=qY (w.alloc (.cells #[.int .i64 0,.int .u8 0,.bool false,.slice none 0 0] 218));have O8:W1.heap.size=w.heap.size+1:=by rw [<-p3];simp
 clear DX qo hs;go_enter Tryz.func185,Tryz.ntmps185
 go_wp2_with (fail)
 obtain ⟨W2,r7⟩:=qY (W1.alloc (.cells #[.int .i64 4,.int .u8 0,.bool false,.slice none 0 0] 218));rw [r7];have J0:Hid (Has W2 w.heap.size 218 zeroE):=r7▸Has.more (p3▸Has.fresh w 218 zeroE:Has W1 w.heap.size 218 zeroE) _;have ye:Hid (Has W2 (w.heap.size+1) 218 #[.int .i64 4,.int .u8 0,.bool false,.slice none 0 0]):=r7▸Has.fresh' W1 218 _ O8.symm;have i9:Hid (qW w W2):=r7▸(p3▸(Below.refl w.heap.size w).alloc qN _:qW w W1).alloc (by omega) _;have HS:Hid (∃W5,Has W5 w.heap.size 218 zeroE/\Has W5 (w.heap.size+1) 218 #[.int .i64 4,.int .u8 0,.bool neg,.slice none 0 0]/\qW w W5/\(neg=false->W5=W2)/\(neg=true->W2.setCell ⟨w.heap.size+1,2,none⟩ (.bool true)=W5)):=by
  cases neg with
  | false=>exact ⟨W2,J0.o,ye.o,i9.o,fun _=>rfl,fun h=>by cases h⟩
  | true=>exact ⟨_,J0.o.other (by simp) _,ye.o.put 2 _,i9.o.setCell (by simp) _,fun h=>(by cases h),fun _=>rfl⟩
 obtain ⟨W5,hR5,hX5,hB5,DC,hWt⟩:=HS.o;have M7:=hid hR5;have HX5:=hid hX5;have H8:=hid hB5;have HWf:=hid DC;have HWt:=hid hWt;have k2:=ye.o.at_ 2;have f2:=ye.o.free 2;clear HS hR5 hX5 hB5 DC hWt r7 p3 O8;refine (hc _).mono ?_;rintro e1 w1 ⟨rfl,rfl⟩;go_upto_if 12 with (fail)
 go_cut [0] (fun s0 w'=>s0=.string (ba t0)/\W5=w')
 case first=>as_aux_lemma =>
  cases neg with
  | false =>
   obtain rfl:=HWf.o rfl;have ht:t0=s:=vp.o;subst ht;go_wp2;go_meet
   case rel=>exact ⟨rfl,rfl⟩
  | true =>
   have ht:t0=s.drop 1:=vp.o;have hw:=HWt.o rfl;have hp:=y7 rfl;rw [<-ht] at zd;clear ht vp y7;go_wp2;go_meet
   case rel=>exact ⟨rfl,rfl⟩
 obtain ⟨rfl,rfl⟩:=hcut;clear HWf HWt k2 f2 hc vp y7 zd z J0 ye i9;go_wp2;go_loopw [0,6,7,8,9] (fun s0 _ _ _ _ wr=>∃(t:By) (rs:List Rg) (A:Option Addr) (cap:Nat),s0=.string (ba t)/\t.length<=128/\rs.length+t.length<=128/\Hid (eY t0 []=eY t rs)/\Hid (Has wr w.heap.size 218 zeroE)/\Hid (Has wr (w.heap.size+1) 218 #[.int .i64 4,.int .u8 0,.bool neg,.slice A rs.length cap])/\Hid (Rgs (w.heap.size+2) wr (.slice A rs.length cap) rs)/\Hid (qW w wr))
  (fun s0 _ _ _ _ _=>match s0 with | .string x=>x.size | _=>0)
 case atStart=>exact ⟨t0,[],none,0,rfl,uf,by simp;exact uf,rfl,M7,HX5,World.ownsRow_nil _ _ _ _,H8⟩
 obtain ⟨t,rs,A,cap,rfl,hl,un,HT,HR,HX,HS,HB⟩:=hrel;have HE:Hid (eY t0 []=if pre [93] t then (if rs.length=0 then none else some (rs,t.drop 1)) else match uG t with | none=>none | some (r,u)=>eY u (rs++[r])):=by
  show _=_;rw [HT.o,Qe,Um];rfl
 have kx3:=HX.o.at_ 3;have z:=aD t;have PW:=yW 93 t;clear HT;by_cases h0:t.length=0
 .
  obtain rfl:=List.length_eq_zero_iff.1 h0;have HN:Hid (clsL s=none):=by
   show _=_;rw [HG.o,HC.o,HE.o];rfl
  clear HE HC HG PW h0;go_wp2_with (first
   | (refine wpList_load_row rfl 218 _ rfl (w.heap.size+1) rfl 218 #[.int .i64 4,.int .u8 0,.bool neg,.slice A rs.length cap] (0,0) _ (HX.o) Tryz.underlying218 rfl lY ?_)
   | (refine wpList_store_row rfl 218 (.tmp 2) (.tmp 80) rfl w.heap.size #[.int .i64 4,.int .u8 0,.bool neg,.slice A rs.length cap] rfl rfl 218 zeroE (HR.o) lY rfl (tO _ _ _ _) ?_))
  exact bodyPost_ret (aJ rfl _ _ _ w.heap.size _ _ _ (eD (Has.row (HR.o))) rfl rfl rfl) rfl
   ⟨⟨neg,A,_,cap,[],false,rfl,.inl ⟨HN.o,rfl⟩⟩,(HB.o).rowG qN _⟩
 have g0:(0:Int) < (t.length:Int):=by omega
 have g0':((t.length:Int) == 0)=false:=by simp;intro h;exact h0 (by rw [h];rfl)
 have i0:=dL t (by omega);have TE:=fU (at8 t 0) 93;rw [show b8 93=93 from rfl] at TE;rw [show decide (t=[])=false by simp;rintro rfl;exact h0 rfl,Bool.not_false,Bool.true_and] at PW;generalize at8 t 0=x at *;obtain ⟨b,hb⟩:=qY (pre [93] t);rw [<-PW,hb] at TE;rw [hb] at HE;clear PW hb h0
 cases b with
 | true =>
  simp only [Bool.not_true] at TE;by_cases hr:rs.length=0
  .
   have HN:Hid (clsL s=none):=by
    show _=_;rw [HG.o,HC.o,HE.o,if_pos rfl,if_pos hr]
   have gr:((rs.length:Int) == 0)=true:=by simp [hr]
   clear HE HC HG;go_wp2_with (first
    | (refine wpList_load_row rfl 218 _ rfl (w.heap.size+1) rfl 218 #[.int .i64 4,.int .u8 0,.bool neg,.slice A rs.length cap] (0,0) _ (HX.o) Tryz.underlying218 rfl lY ?_)
    | (refine wpList_store_row rfl 218 (.tmp 2) (.tmp 80) rfl w.heap.size #[.int .i64 4,.int .u8 0,.bool neg,.slice A rs.length cap] rfl rfl 218 zeroE (HR.o) lY rfl (tO _ _ _ _) ?_))
   exact bodyPost_ret (aJ rfl _ _ _ w.heap.size _ _ _ (eD (Has.row (HR.o))) rfl rfl rfl) rfl
    ⟨⟨neg,A,_,cap,[],false,rfl,.inl ⟨HN.o,rfl⟩⟩,(HB.o).rowG qN _⟩
  have HO:Hid (clsL s=some (.set neg rs,t.drop 1)):=by
   show _=_;rw [HG.o,HC.o,HE.o,if_pos rfl,if_neg hr]
  have gr:((rs.length:Int) == 0)=false:=by simp;intro h;exact hr (by rw [h];rfl)
  have g1:(1:Int)<=(t.length:Int):=by omega
  have zd:=aR t 1;generalize t.drop 1=u at zd HO;clear HE HC HG hr;go_wp2;refine qG (S:=fun _=>True) (by kernel_rfl) (trivial) (fun hS=>?_);refine aG 1 ?_
  iterate 2
   refine qT rfl (by kernel_rfl) ‹_› (fun w a8=>by go_simp;with_reducible rfl) ?_;simp only [Act.put,aB,aA,aC,Nat.reduceAdd]
  refine aE ?_;refine qD 0 rfl (by kernel_rfl) fun K hK=>?_
  rw [if_pos (by rfl)];refine wp_load_row 218 (.tmp 5) rfl (w.heap.size+1) rfl 218 #[.int .i64 4,.int .u8 0,.bool neg,.slice A rs.length cap] (0,0) _ (HX.o.drawn 1) Tryz.underlying218 rfl lY ?_;refine hK.o _ _ trivial (fun hS=>?_);clear hK K hS;simp only [Act.put,aB,aA,aC];refine qD 3 rfl (by kernel_rfl) fun K hK=>?_
  rw [if_pos (by rfl)];refine wp_store_row 218 (.tmp 2) (.tmp 81) rfl w.heap.size #[.int .i64 4,.int .u8 0,.bool neg,.slice A rs.length cap] rfl rfl 218 zeroE (HR.o.drawn 1) lY rfl (tO _ _ _ _) ?_;refine hK.o _ _ trivial (fun hS=>?_);clear hK K hS;refine aG 4 ?_
  iterate 2
   refine qT rfl (by kernel_rfl) ‹_› (fun w a8=>by go_simp;with_reducible rfl) ?_;simp only [Act.put,aB,aA,aC,Nat.reduceAdd]
  refine aE ?_;refine qM (by kernel_rfl) ?_;go_wp2;exact bodyPost_ret (aJ rfl _ _ _ w.heap.size _ _ _ (eD (Has.row (HR.o.drawn 1))) rfl rfl rfl) rfl
   ⟨⟨neg,A,_,cap,u,true,rfl,.inr ⟨rs,HO.o,rfl,((HS.o.mono (Nat.zero_le _)).stays qB.drew).putRow (HR.o.drawn 1) (by decide) _⟩⟩,(HB.o.drew).rowG qN _⟩
 | false =>
  simp only [Bool.not_false] at TE;have j7:Hid (eY t0 []=match uG t with | none=>none | some (r,u)=>eY u (rs++[r])):=HE.o.trans (if_neg (by decide));have r6:=Ee t;clear HE
  cases hx:wrL t with
  | none =>
   have HN:Hid (clsL s=none):=by
    show _=_;rw [HG.o,HC.o,j7.o];unfold uG;rw [hx]
   rw [hx] at r6;simp only [rK] at r6;clear j7 HC HG hx;go_wp2_with (fail)
   refine (r6 _).mono ?_;rintro e1 w1 ⟨rfl,n1,rfl⟩;go_wp2_with (first
    | (refine wpList_load_row rfl 218 _ rfl (w.heap.size+1) rfl 218 #[.int .i64 4,.int .u8 0,.bool neg,.slice A rs.length cap] (0,0) _ (HX.o.drawn n1) Tryz.underlying218 rfl lY ?_)
    | (refine wpList_store_row rfl 218 (.tmp 2) (.tmp 32) rfl w.heap.size #[.int .i64 4,.int .u8 0,.bool neg,.slice A rs.length cap] rfl rfl 218 zeroE (HR.o.drawn n1) lY rfl (tO _ _ _ _) ?_))
   exact bodyPost_ret (aJ rfl _ _ _ w.heap.size _ _ _ (eD (Has.row (HR.o.drawn n1))) rfl rfl rfl) rfl
    ⟨⟨neg,A,_,cap,[],false,rfl,.inl ⟨HN.o,rfl⟩⟩,(HB.o.drewG n1).rowG qN _⟩
  | some y =>
   obtain ⟨lo,r⟩:=y;have hrt:r.length < t.length:=Hk hx;rw [hx] at r6;simp only [rK] at r6;obtain ⟨cnd,mg⟩:=qY ((decide (1 < r.length)&&(at8 r 0 == 45)&&!(at8 r 1 == 93)));have oa:Hid (eY t0 []=match (if cnd then (match wrL (r.drop 1) with | none=>none | some (hi,r2)=>if decide (hi.toNat < lo.toNat) then none else some ((lo,hi),r2)) else some ((lo,lo),r)) with | none=>none | some (x,u)=>eY u (rs++[x])):=by
    show _=_;rw [j7.o];unfold uG;rw [hx];simp only;rw [mg];rfl
   clear j7 hx;go_wp2_with (fail)
   refine (r6 _).mono ?_;rintro e1 w1 ⟨rfl,n1,rfl⟩;go_upto_region 10 with (fail)
   go_cut [46] from 16 to 70 (fun c w'=>c=.bool cnd/\wr.drewN n1=w')
   case first=>as_aux_lemma =>
    have zr:=aD r;by_cases h1:1 < r.length
    .
     have e1:(1:Int) < (r.length:Int):=by omega
     have j0:=dL r (by omega);have j1:=tN r h1;have q0:=aL (at8 r 0) 45;rw [show b8 45=45 from rfl] at q0;have q1:=fU (at8 r 1) 93;rw [show b8 93=93 from rfl] at q1;rw [decide_eq_true h1,Bool.true_and] at mg;generalize at8 r 0=x0 at *;generalize at8 r 1=x1 at *;generalize (x0 == 45)=b0 at q0 mg;generalize (x1 == 93)=b1 at q1 mg;clear h1
     cases b0 with
     | false =>
      go_wp2;go_meet
      case rel=>exact ⟨by rw [<-mg];rfl,rfl⟩
     | true =>
      cases b1 with
      | true =>
               simp only [Bool.not_true] at q1;go_wp2;go_meet
               case rel=>exact ⟨by rw [<-mg];rfl,rfl⟩
      | false =>
               simp only [Bool.not_false] at q1;go_wp2;go_meet
               case rel=>exact ⟨by rw [<-mg];rfl,rfl⟩
    . have e1:¬((1:Int) < (r.length:Int)):=by omega
      rw [decide_eq_false h1,Bool.false_and,Bool.false_and] at mg;clear h1;subst mg;go_wp2;go_meet
      case rel=>exact ⟨rfl,rfl⟩
   obtain ⟨rfl,rfl⟩:=hcut;have h1:cnd=true->1 < r.length:=fun h=>by
    rw [h] at mg;simp only [Bool.and_eq_true,decide_eq_true_eq] at mg;exact mg.1.1
   clear mg
   cases cnd with
   | false =>
    have AI:Hid (eY t0 []=eY r (rs++[(lo,lo)])):=oa.o;have qll:decide (b8 lo < b8 lo)=false:=by simp
    clear oa h1;obtain ⟨W6,j8⟩:=qY ((wr.drewN n1).alloc (.cells #[.int .u8 (b8 lo),.int .u8 (b8 lo)] 283));have B6:qW wr W6:=j8▸(qB.drewG n1).alloc qN _;have ng:Has W6 wr.heap.size 283 #[.int .u8 (b8 lo),.int .u8 (b8 lo)]:=j8▸Has.fresh (wr.drewN n1) _ _;obtain ⟨v7,w7,M8,ri,yq,ol⟩:=zN W6 (w.heap.size+2) _ rs (HS.o.stays B6) (lo,lo) ⟨wr.heap.size,0,none⟩ (ng.at_ 0) (ng.at_ 1) (by omega) (by have:=B6.size;have:=HX.o.inside;omega) 216;have mx:=hid M8;have KH:=hid (ol _ _ _ (by decide) (HR.o.stays B6));have wu:=hid (ol _ _ _ (by decide) (HX.o.stays B6));have DL:=hid (yq w w.heap.size (by omega) (HB.o.thenG B6));have GU:=hid ri;obtain ⟨A7,PZ,uv⟩:=GU.o.form;obtain ⟨n7,GV⟩:=qY ((rs++[(lo,lo)]).length);rw [GV] at uv;subst uv;have k37:=wu.o.at_ 3;have f37:=wu.o.free 3;clear M8 ri yq ol ng B6;go_wp2_with (at_builtin;refine wpList_append_run rfl (.tmp 63) (.tmp 67) 216 216 rfl ⟨_,w7,mx.o,?_⟩)
    subst GV;refine ⟨⟨r,rs++[(lo,lo)],A7,PZ,rfl,by omega,by rw [List.length_append,List.length_singleton];omega,AI.o,KH.o.other (by simp) _,wu.o.put 3 _,GU.o.put wu.o (by decide) 3 _,DL.o.setCell (by simp) _⟩,?_⟩;simp [aD];omega
   | true =>
    have BU:=h1 rfl;have gr1:(1:Int)<=(r.length:Int):=by omega
    have zr:=aD r;have zd:=aR r 1;have xt:(r.drop 1).length < r.length:=by rw [List.length_drop];omega
    have x9:=Ee (r.drop 1);have DH:∀c r2,wrL (r.drop 1)=some (c,r2)->r2.length < (r.drop 1).length:=fun c r2 hx=>Hk hx
    generalize r.drop 1=rd at *;have AI:Hid (eY t0 []=match (match wrL rd with | none=>none | some (hi,r2)=>if decide (hi.toNat < lo.toNat) then none else some ((lo,hi),r2)) with | none=>none | some (x,u)=>eY u (rs++[x])):=oa.o;clear oa h1
    cases hx:wrL rd with
    | none =>
     have HN:Hid (clsL s=none):=by
               show _=_;rw [HG.o,HC.o,AI.o,hx]
     rw [hx] at x9;simp only [rK] at x9;clear AI HC HG hx DH;go_wp2_with (fail)
     refine (x9 _).mono ?_;rintro e2 w2 ⟨rfl,n2,rfl⟩;go_wp2_with (first
               | (refine wpList_load_row rfl 218 _ rfl (w.heap.size+1) rfl 218 #[.int .i64 4,.int .u8 0,.bool neg,.slice A rs.length cap] (0,0) _ (HX.o.drawn (n1+n2)) Tryz.underlying218 rfl lY ?_)
               | (refine wpList_store_row rfl 218 (.tmp 2) (.tmp 61) rfl w.heap.size #[.int .i64 4,.int .u8 0,.bool neg,.slice A rs.length cap] rfl rfl 218 zeroE (HR.o.drawn (n1+n2)) lY rfl (tO _ _ _ _) ?_))
     exact bodyPost_ret (aJ rfl _ _ _ w.heap.size _ _ _ (eD (Has.row (HR.o.drawn (n1+n2)))) rfl rfl rfl) rfl
               ⟨⟨neg,A,_,cap,[],false,rfl,.inl ⟨HN.o,rfl⟩⟩,(HB.o.drewG (n1+n2)).rowG qN _⟩
    | some y =>
     obtain ⟨hi,r2⟩:=y;have SH:=DH hi r2 hx;rw [hx] at x9 AI;simp only [rK] at x9;have qlt:decide (b8 hi < b8 lo)=decide (hi.toNat < lo.toNat):=by unfold b8;rw [decide_eq_decide];omega
     obtain ⟨bl,yq⟩:=qY (decide (hi.toNat < lo.toNat));rw [yq] at qlt;have TF:Hid (eY t0 []=match (if bl then none else some ((lo,hi),r2)) with | none=>none | some (x,u)=>eY u (rs++[x])):=by show _=_;rw [AI.o];simp only;rw [yq]
     clear AI hx DH yq
     cases bl with
     | true =>
               have HN:Hid (clsL s=none):=by
                show _=_;rw [HG.o,HC.o,TF.o];rfl
               clear TF HC HG;go_wp2_with (fail)
               refine (x9 _).mono ?_;rintro e2 w2 ⟨rfl,n2,rfl⟩;go_wp2_with (first
                | (refine wpList_load_row rfl 218 _ rfl (w.heap.size+1) rfl 218 #[.int .i64 4,.int .u8 0,.bool neg,.slice A rs.length cap] (0,0) _ (HX.o.drawn (n1+n2)) Tryz.underlying218 rfl lY ?_)
                | (refine wpList_store_row rfl 218 (.tmp 2) (.tmp 61) rfl w.heap.size #[.int .i64 4,.int .u8 0,.bool neg,.slice A rs.length cap] rfl rfl 218 zeroE (HR.o.drawn (n1+n2)) lY rfl (tO _ _ _ _) ?_))
               exact bodyPost_ret (aJ rfl _ _ _ w.heap.size _ _ _ (eD (Has.row (HR.o.drawn (n1+n2)))) rfl rfl rfl) rfl
                ⟨⟨neg,A,_,cap,[],false,rfl,.inl ⟨HN.o,rfl⟩⟩,(HB.o.drewG (n1+n2)).rowG qN _⟩
     | false =>
               have OS:Hid (eY t0 []=eY r2 (rs++[(lo,hi)])):=TF.o;clear TF;go_wp2_with (fail)
               refine (x9 _).mono ?_;rintro e2 w2 ⟨rfl,n2,rfl⟩;obtain ⟨W6,j8⟩:=qY ((wr.drewN (n1+n2)).alloc (.cells #[.int .u8 (b8 lo),.int .u8 (b8 hi)] 283));have B6:qW wr W6:=j8▸(qB.drewG (n1+n2)).alloc qN _;have ng:Has W6 wr.heap.size 283 #[.int .u8 (b8 lo),.int .u8 (b8 hi)]:=j8▸Has.fresh (wr.drewN (n1+n2)) _ _;obtain ⟨v7,w7,M8,ri,yq,ol⟩:=zN W6 (w.heap.size+2) _ rs (HS.o.stays B6) (lo,hi) ⟨wr.heap.size,0,none⟩ (ng.at_ 0) (ng.at_ 1) (by omega) (by have:=B6.size;have:=HX.o.inside;omega) 216;have mx:=hid M8;have KH:=hid (ol _ _ _ (by decide) (HR.o.stays B6));have wu:=hid (ol _ _ _ (by decide) (HX.o.stays B6));have DL:=hid (yq w w.heap.size (by omega) (HB.o.thenG B6));have GU:=hid ri;obtain ⟨A7,PZ,uv⟩:=GU.o.form;obtain ⟨n7,GV⟩:=qY ((rs++[(lo,hi)]).length);rw [GV] at uv;subst uv;have k37:=wu.o.at_ 3;have f37:=wu.o.free 3;clear M8 ri yq ol ng B6;go_wp2_with (at_builtin;refine wpList_append_run rfl (.tmp 63) (.tmp 67) 216 216 rfl ⟨_,w7,mx.o,?_⟩)
               subst GV;refine ⟨⟨r2,rs++[(lo,hi)],A7,PZ,rfl,by omega,by rw [List.length_append,List.length_singleton];omega,OS.o,KH.o.other (by simp) _,wu.o.put 3 _,GU.o.put wu.o (by decide) 3 _,DL.o.setCell (by simp) _⟩,?_⟩;simp [aD];omega
abbrev lz (a b:Int) (c:Bool) (A:Option Addr) (n k:Nat):Array Value:=#[.int .i64 a,.int .u8 b,.bool c,.slice A n k]
def Bs (a b:Int) (c:Bool) (A:Option Addr) (n k:Nat):(#[.int .i64 a,.int .u8 b,.bool c,.slice A n k]:Array Value).all (·.oneCell')=true:=by simp [Value.oneCell']
def oZ (w:World) (el:El) (a b:Int) (c:Bool) (A:Option Addr) (n k:Nat):Prop :=
 match el with
 | .all=>a=1/\b=0/\c=false/\A=none/\n=0/\k=0
 | .part=>a=2/\b=0/\c=false/\A=none/\n=0/\k=0
 | .one=>a=3/\b=0/\c=false/\A=none/\n=0/\k=0
 | .set neg rs=>a=4/\b=0/\c=neg/\n=rs.length/\Rgs 0 w (.slice A n k) rs
 | .byt x=>a=5/\b=b8 x/\c=false/\A=none/\n=0/\k=0
def lL (x:Option (El × By)) (e:Ending) (w':World):Prop :=
 ∃a b c A n k r ok,e=.returned (.tuple #[.agg (lz a b c A n k),.string (ba r),.bool ok])/\((x=none/\ok=false)∨∃el,x=some (el,r)/\ok=true/\oZ w' el a b c A n k)
def Xv {s:By} (h0:1<=s.length) (h:(at8 s 0 == 47)=true):dA s=some (47,s.drop 1):=by
 cases s with
 | nil=>simp at h0
 | cons x s =>
  have hx:x=47:=by simpa [at8] using h
  subst hx;unfold dA;have:pre [92] (47 :: s)=false:=by simp [pre,List.isPrefixOf]
  rw [this];simp [at8]
def jd {s:By} (h:(at8 s 0 == 47)=false):dA s=wrL s:=by
 have e:dA s=if (cA [92] s).length=0 then none else if pre [92] s&&(at8 (cA [92] s) 0 == 47) then none else some (at8 (cA [92] s) 0,(cA [92] s).drop 1):=rfl
 rw [e];unfold wrL;simp only
 cases hb:pre [92] s with
 | false =>
  have hc:cA [92] s=s:=by unfold cA;rw [hb];rfl
  rw [hc,h];simp
 | true=>simp
def gg (s:By) (w:World) (h0:1<=s.length) (hs:s.length<=128) (h1:pre [42,42] s=true) :
 qC 149 #[.string (ba s)] w fun e w'=>lL (elemL s) e w'/\qW w w':=by
 have HE:Hid (elemL s=some (.all,s.drop 2)):=by
  show _=_;unfold elemL;rw [if_pos h1]
 have hp:∀W,qC 148 #[.string (ba s),.string ⟨#[42,42]⟩] W fun e w'=>e=.returned (.bool true)/\W=w':=by
  intro W;have:=cX s [42,42] W;rw [h1] at this;exact this
 have i0:=dL s h0;have z:=aD s;have AF:(1:Int)<=(s.length:Int):=by omega
 generalize elemL s=goal at HE;obtain ⟨W1,p3⟩:=qY (w.alloc (.cells #[.int .i64 0,.int .u8 0,.bool false,.slice none 0 0] 218));have HR:Hid (Has W1 w.heap.size 218 zeroE):=p3▸Has.fresh _ _ _;have HB:Hid (qW w W1):=p3▸qB.alloc qN _;have zk:(2:Int)<=(s.length:Int):=by have:=bU h1;simp at this;omega
 have zd:=aR s 2;generalize s.drop 2=u at zd HE;clear h1 h0;go_enter Tryz.func149,Tryz.ntmps149
 go_wp2_with (go_at_call 148;refine (hp _).mono ?_;rintro e1 w1 ⟨rfl,rfl⟩)
 refine qG (S:=fun _=>True) (by kernel_rfl) (trivial) (fun hS=>?_);refine aG 0 ?_
 iterate 3
  refine qT rfl (by kernel_rfl) ‹_› (fun w a8=>by go_simp;with_reducible rfl) ?_;simp only [Act.put,aB,aA,aC,Nat.reduceAdd]
 refine aE ?_;refine qD 3 rfl (by kernel_rfl) fun K hK=>?_
 rw [if_pos (by rfl)];refine wp_store_row 218 (.tmp 2) (.tmp 10) rfl w.heap.size #[.int .i64 1,.int .u8 0,.bool false,.slice none 0 0] rfl rfl 218 zeroE (HR.o.drawn 1) lY rfl (Bs _ _ _ _ _ _) ?_;refine hK.o _ _ trivial (fun hS=>?_);clear hK K hS;refine aG 4 ?_
 iterate 2
  refine qT rfl (by kernel_rfl) ‹_› (fun w a8=>by go_simp;with_reducible rfl) ?_;simp only [Act.put,aB,aA,aC,Nat.reduceAdd]
 refine aE ?_;refine qM (by kernel_rfl) ?_;go_wp2;refine bodyPost_ret (aJ rfl _ _ _ w.heap.size _ _ _ (eD (Has.row (HR.o.drawn 1))) rfl rfl rfl) rfl ⟨?_,(HB.o.drew).rowG qN _⟩;rw [HE.o];exact ⟨1,0,false,none,0,0,_,true,rfl,.inr ⟨_,rfl,rfl,by refine ⟨rfl,rfl,rfl,rfl,rfl,rfl⟩⟩⟩
def bj (s:By) (w:World) (h0:1<=s.length) (hs:s.length<=128) (h1:pre [42,42] s=false) (h2:(at8 s 0 == 42)=true) :
 qC 149 #[.string (ba s)] w fun e w'=>lL (elemL s) e w'/\qW w w':=by
 have HE:Hid (elemL s=some (.part,s.drop 1)):=by
  show _=_;unfold elemL;rw [h1,h2];rfl
 have hp:∀W,qC 148 #[.string (ba s),.string ⟨#[42,42]⟩] W fun e w'=>e=.returned (.bool false)/\W=w':=by
  intro W;have:=cX s [42,42] W;rw [h1] at this;exact this
 have i0:=dL s h0;have z:=aD s;have AF:(1:Int)<=(s.length:Int):=by omega
 generalize elemL s=goal at HE;obtain ⟨W1,p3⟩:=qY (w.alloc (.cells #[.int .i64 0,.int .u8 0,.bool false,.slice none 0 0] 218));have HR:Hid (Has W1 w.heap.size 218 zeroE):=p3▸Has.fresh _ _ _;have HB:Hid (qW w W1):=p3▸qB.alloc qN _;have q2:(b8 (at8 s 0) == 42)=true:=(aL (at8 s 0) 42).trans h2;have zd:=aR s 1;generalize s.drop 1=u at *;generalize at8 s 0=x at *;clear h1 h0 h2;go_enter Tryz.func149,Tryz.ntmps149
 go_wp2_with (go_at_call 148;refine (hp _).mono ?_;rintro e1 w1 ⟨rfl,rfl⟩)
 refine qG (S:=fun _=>True) (by kernel_rfl) (trivial) (fun hS=>?_);refine aG 0 ?_
 iterate 3
  refine qT rfl (by kernel_rfl) ‹_› (fun w a8=>by go_simp;with_reducible rfl) ?_;simp only [Act.put,aB,aA,aC,Nat.reduceAdd]
 refine aE ?_;refine qD 3 rfl (by kernel_rfl) fun K hK=>?_
 rw [if_pos (by rfl)];refine wp_store_row 218 (.tmp 2) (.tmp 16) rfl w.heap.size #[.int .i64 2,.int .u8 0,.bool false,.slice none 0 0] rfl rfl 218 zeroE (HR.o.drawn 1) lY rfl (Bs _ _ _ _ _ _) ?_;refine hK.o _ _ trivial (fun hS=>?_);clear hK K hS;refine aG 4 ?_
 iterate 2
  refine qT rfl (by kernel_rfl) ‹_› (fun w a8=>by go_simp;with_reducible rfl) ?_;simp only [Act.put,aB,aA,aC,Nat.reduceAdd]
 refine aE ?_;refine qM (by kernel_rfl) ?_;go_wp2;refine bodyPost_ret (aJ rfl _ _ _ w.heap.size _ _ _ (eD (Has.row (HR.o.drawn 1))) rfl rfl rfl) rfl ⟨?_,(HB.o.drew).rowG qN _⟩;rw [HE.o];exact ⟨2,0,false,none,0,0,_,true,rfl,.inr ⟨_,rfl,rfl,by refine ⟨rfl,rfl,rfl,rfl,rfl,rfl⟩⟩⟩
def ev (s:By) (w:World) (h0:1<=s.length) (hs:s.length<=128) (h1:pre [42,42] s=false) (h2:(at8 s 0 == 42)=false) (h3:(at8 s 0 == 63)=true) :
 qC 149 #[.string (ba s)] w fun e w'=>lL (elemL s) e w'/\qW w w':=by
 have HE:Hid (elemL s=some (.one,s.drop 1)):=by
  show _=_;unfold elemL;rw [h1,h2,h3];rfl
 have hp:∀W,qC 148 #[.string (ba s),.string ⟨#[42,42]⟩] W fun e w'=>e=.returned (.bool false)/\W=w':=by
  intro W;have:=cX s [42,42] W;rw [h1] at this;exact this
 have i0:=dL s h0;have z:=aD s;have AF:(1:Int)<=(s.length:Int):=by omega
 generalize elemL s=goal at HE;obtain ⟨W1,p3⟩:=qY (w.alloc (.cells #[.int .i64 0,.int .u8 0,.bool false,.slice none 0 0] 218));have HR:Hid (Has W1 w.heap.size 218 zeroE):=p3▸Has.fresh _ _ _;have HB:Hid (qW w W1):=p3▸qB.alloc qN _;have q2:(b8 (at8 s 0) == 42)=false:=(aL (at8 s 0) 42).trans h2;have q3:(b8 (at8 s 0) == 63)=true:=(aL (at8 s 0) 63).trans h3;have zd:=aR s 1;generalize s.drop 1=u at *;generalize at8 s 0=x at *;clear h1 h0 h2 h3;go_enter Tryz.func149,Tryz.ntmps149
 go_wp2_with (go_at_call 148;refine (hp _).mono ?_;rintro e1 w1 ⟨rfl,rfl⟩)
 refine qG (S:=fun _=>True) (by kernel_rfl) (trivial) (fun hS=>?_);refine aG 0 ?_
 iterate 3
  refine qT rfl (by kernel_rfl) ‹_› (fun w a8=>by go_simp;with_reducible rfl) ?_;simp only [Act.put,aB,aA,aC,Nat.reduceAdd]
 refine aE ?_;refine qD 3 rfl (by kernel_rfl) fun K hK=>?_
 rw [if_pos (by rfl)];refine wp_store_row 218 (.tmp 2) (.tmp 22) rfl w.heap.size #[.int .i64 3,.int .u8 0,.bool false,.slice none 0 0] rfl rfl 218 zeroE (HR.o.drawn 1) lY rfl (Bs _ _ _ _ _ _) ?_;refine hK.o _ _ trivial (fun hS=>?_);clear hK K hS;refine aG 4 ?_
 iterate 2
  refine qT rfl (by kernel_rfl) ‹_› (fun w a8=>by go_simp;with_reducible rfl) ?_;simp only [Act.put,aB,aA,aC,Nat.reduceAdd]
 refine aE ?_;refine qM (by kernel_rfl) ?_;go_wp2;refine bodyPost_ret (aJ rfl _ _ _ w.heap.size _ _ _ (eD (Has.row (HR.o.drawn 1))) rfl rfl rfl) rfl ⟨?_,(HB.o.drew).rowG qN _⟩;rw [HE.o];exact ⟨3,0,false,none,0,0,_,true,rfl,.inr ⟨_,rfl,rfl,by refine ⟨rfl,rfl,rfl,rfl,rfl,rfl⟩⟩⟩
def dy (s:By) (w:World) (h0:1<=s.length) (hs:s.length<=128) (h1:pre [42,42] s=false) (h2:(at8 s 0 == 42)=false) (h3:(at8 s 0 == 63)=false) (h4:(at8 s 0 == 91)=true) :
 qC 149 #[.string (ba s)] w fun e w'=>lL (elemL s) e w'/\qW w w':=by
 have HE:Hid (elemL s=clsL (s.drop 1)):=by
  show _=_;exact zH s h1 h2 h3 h4
 have hp:∀W,qC 148 #[.string (ba s),.string ⟨#[42,42]⟩] W fun e w'=>e=.returned (.bool false)/\W=w':=by
  intro W;have:=cX s [42,42] W;rw [h1] at this;exact this
 have i0:=dL s h0;have z:=aD s;have AF:(1:Int)<=(s.length:Int):=by omega
 generalize elemL s=goal at HE;obtain ⟨W1,p3⟩:=qY (w.alloc (.cells #[.int .i64 0,.int .u8 0,.bool false,.slice none 0 0] 218));have HR:Hid (Has W1 w.heap.size 218 zeroE):=p3▸Has.fresh _ _ _;have HB:Hid (qW w W1):=p3▸qB.alloc qN _;have q2:(b8 (at8 s 0) == 42)=false:=(aL (at8 s 0) 42).trans h2;have q3:(b8 (at8 s 0) == 63)=false:=(aL (at8 s 0) 63).trans h3;have q4:(b8 (at8 s 0) == 91)=true:=(aL (at8 s 0) 91).trans h4;have zd:=aR s 1;have pp:(s.drop 1).length<=128:=by simp;omega
 generalize s.drop 1=u at *;generalize at8 s 0=x at *;clear h1 h0 h2 h3 h4;have CC:=hid (Li u W1 pp);clear pp;go_enter Tryz.func149,Tryz.ntmps149
 go_wp2_with (go_at_call 148;refine (hp _).mono ?_;rintro e1 w1 ⟨rfl,rfl⟩)
 refine CC.o.mono ?_;rintro e2 w2 ⟨⟨neg,A,n,c,r,ok,rfl,hh⟩,a9⟩;have H2:=hid (HR.o.stays a9);have B2:=hid (HB.o.thenG a9);have k0:=H2.o.at_ 0;have k1:=H2.o.at_ 1;have k2:=H2.o.at_ 2;have k3:=H2.o.at_ 3;have f0:=H2.o.free 0;have f1:=H2.o.free 1;have f2:=H2.o.free 2;have f3:=H2.o.free 3;have HH:=hid hh;clear hh a9;go_wp2;have HF:=hid ((((H2.o.put 0 (.int .i64 4)).put 1 (.int .u8 0)).put 2 (.bool neg)).put 3 (.slice A n c));refine bodyPost_ret (aJ rfl _ _ _ w.heap.size _ _ _ (eD HF.o) rfl rfl rfl) rfl ⟨?_,((((B2.o.setCell qN _).setCell qN _).setCell qN _).setCell qN _)⟩;rw [HE.o];refine ⟨4,0,neg,A,n,c,r,ok,rfl,?_⟩;rcases HH.o with ⟨h1,h2⟩ | ⟨rs,h1,h2,h3⟩
 . exact .inl ⟨h1,h2⟩
 have hn:n=rs.length:=by
  obtain ⟨A',c',h⟩:=h3.form;simp only [Value.slice.injEq] at h;exact h.2.1
 refine .inr ⟨_,h1,h2,rfl,rfl,rfl,hn,?_⟩;exact (((h3.put H2.o (by decide) 0 _).put (H2.o.put 0 _) (by decide) 1 _).put ((H2.o.put 0 _).put 1 _) (by decide) 2 _).put (((H2.o.put 0 _).put 1 _).put 2 _) (by decide) 3 _
def Wr (s:By) (w:World) (h0:1<=s.length) (hs:s.length<=128) (h1:pre [42,42] s=false) (h2:(at8 s 0 == 42)=false) (h3:(at8 s 0 == 63)=false) (h4:(at8 s 0 == 91)=false) (h5:(at8 s 0 == 47)=true) :
 qC 149 #[.string (ba s)] w fun e w'=>lL (elemL s) e w'/\qW w w':=by
 have HE:Hid (elemL s=some (.byt 47,s.drop 1)):=by
  show _=_;rw [sW s h1 h2 h3 h4,Xv h0 h5]
 have hp:∀W,qC 148 #[.string (ba s),.string ⟨#[42,42]⟩] W fun e w'=>e=.returned (.bool false)/\W=w':=by
  intro W;have:=cX s [42,42] W;rw [h1] at this;exact this
 have i0:=dL s h0;have z:=aD s;have AF:(1:Int)<=(s.length:Int):=by omega
 generalize elemL s=goal at HE;obtain ⟨W1,p3⟩:=qY (w.alloc (.cells #[.int .i64 0,.int .u8 0,.bool false,.slice none 0 0] 218));have HR:Hid (Has W1 w.heap.size 218 zeroE):=p3▸Has.fresh _ _ _;have HB:Hid (qW w W1):=p3▸qB.alloc qN _;have q2:(b8 (at8 s 0) == 42)=false:=(aL (at8 s 0) 42).trans h2;have q3:(b8 (at8 s 0) == 63)=false:=(aL (at8 s 0) 63).trans h3;have q4:(b8 (at8 s 0) == 91)=false:=(aL (at8 s 0) 91).trans h4;have q5:(b8 (at8 s 0) == 47)=true:=(aL (at8 s 0) 47).trans h5;have zd:=aR s 1;generalize s.drop 1=u at *;generalize at8 s 0=x at *;clear h1 h0 h2 h3 h4 h5;go_enter Tryz.func149,Tryz.ntmps149
 go_wp2_with (go_at_call 148;refine (hp _).mono ?_;rintro e1 w1 ⟨rfl,rfl⟩)
 refine qG (S:=fun _=>True) (by kernel_rfl) (trivial) (fun hS=>?_);refine aG 0 ?_
 iterate 3
  refine qT rfl (by kernel_rfl) ‹_› (fun w a8=>by go_simp;with_reducible rfl) ?_;simp only [Act.put,aB,aA,aC,Nat.reduceAdd]
 refine aE ?_;refine qD 3 rfl (by kernel_rfl) fun K hK=>?_
 rw [if_pos (by rfl)];refine wp_store_row 218 (.tmp 2) (.tmp 37) rfl w.heap.size #[.int .i64 5,.int .u8 47,.bool false,.slice none 0 0] rfl rfl 218 zeroE (HR.o.drawn 1) lY rfl (Bs _ _ _ _ _ _) ?_;refine hK.o _ _ trivial (fun hS=>?_);clear hK K hS;refine aG 4 ?_
 iterate 2
  refine qT rfl (by kernel_rfl) ‹_› (fun w a8=>by go_simp;with_reducible rfl) ?_;simp only [Act.put,aB,aA,aC,Nat.reduceAdd]
 refine aE ?_;refine qM (by kernel_rfl) ?_;go_wp2;refine bodyPost_ret (aJ rfl _ _ _ w.heap.size _ _ _ (eD (Has.row (HR.o.drawn 1))) rfl rfl rfl) rfl ⟨?_,(HB.o.drew).rowG qN _⟩;rw [HE.o];exact ⟨5,47,false,none,0,0,_,true,rfl,.inr ⟨_,rfl,rfl,by refine ⟨rfl,rfl,rfl,rfl,rfl,rfl⟩⟩⟩
def ik (s:By) (w:World) (h0:1<=s.length) (hs:s.length<=128) (h1:pre [42,42] s=false) (h2:(at8 s 0 == 42)=false) (h3:(at8 s 0 == 63)=false) (h4:(at8 s 0 == 91)=false) (h5:(at8 s 0 == 47)=false) :
 qC 149 #[.string (ba s)] w fun e w'=>lL (elemL s) e w'/\qW w w':=by
 have HE:Hid (elemL s=match wrL s with | none=>none | some (c,r)=>some (.byt c,r)):=by
  show _=_;rw [sW s h1 h2 h3 h4,jd h5];rfl
 have hp:∀W,qC 148 #[.string (ba s),.string ⟨#[42,42]⟩] W fun e w'=>e=.returned (.bool false)/\W=w':=by
  intro W;have:=cX s [42,42] W;rw [h1] at this;exact this
 have i0:=dL s h0;have z:=aD s;have AF:(1:Int)<=(s.length:Int):=by omega
 generalize elemL s=goal at HE;obtain ⟨W1,p3⟩:=qY (w.alloc (.cells #[.int .i64 0,.int .u8 0,.bool false,.slice none 0 0] 218));have HR:Hid (Has W1 w.heap.size 218 zeroE):=p3▸Has.fresh _ _ _;have HB:Hid (qW w W1):=p3▸qB.alloc qN _;have q2:(b8 (at8 s 0) == 42)=false:=(aL (at8 s 0) 42).trans h2;have q3:(b8 (at8 s 0) == 63)=false:=(aL (at8 s 0) 63).trans h3;have q4:(b8 (at8 s 0) == 91)=false:=(aL (at8 s 0) 91).trans h4;have q5:(b8 (at8 s 0) == 47)=false:=(aL (at8 s 0) 47).trans h5;generalize at8 s 0=x at *;have hc:=Ee s;generalize wrL s=cb at hc HE;obtain ⟨c,r,ok,hv⟩:∃(c:UInt8) (r:By) (ok:Bool),rK cb=.tuple #[.int .u8 (b8 c),.string (ba r),.bool ok]/\goal=if ok then some (.byt c,r) else none:=by
  cases cb with
  | none=>exact ⟨0,[],false,rfl,HE.o⟩
  | some y=>exact ⟨y.1,y.2,true,rfl,HE.o⟩
 rw [hv.1] at hc;have j7:=hid hv.2;clear h1 h0 h2 h3 h4 h5 HE hv;have k0:=HR.o.at_ 0;have k1:=HR.o.at_ 1;have k2:=HR.o.at_ 2;have k3:=HR.o.at_ 3;have f0:=HR.o.free 0;have f1:=HR.o.free 1;have f2:=HR.o.free 2;have f3:=HR.o.free 3;go_enter Tryz.func149,Tryz.ntmps149
 go_wp2_with (go_at_call 148;refine (hp _).mono ?_;rintro e1 w1 ⟨rfl,rfl⟩)
 refine (hc _).mono ?_;rintro e2 w2 ⟨rfl,n2,rfl⟩;go_wp2;have HF:=hid (((((HR.o.drawn n2).put 0 (.int .i64 5)).put 1 (.int .u8 (b8 c))).put 2 (.bool false)).put 3 (.slice none 0 0));refine bodyPost_ret (aJ rfl _ _ _ w.heap.size _ _ _ (eD HF.o) rfl rfl rfl) rfl ⟨?_,(((((HB.o.drewG n2).setCell qN _).setCell qN _).setCell qN _).setCell qN _)⟩;rw [j7.o];refine ⟨5,b8 c,false,none,0,0,r,ok,rfl,?_⟩
 cases ok with
 | false=>exact .inl ⟨rfl,rfl⟩
 | true=>exact .inr ⟨_,rfl,rfl,rfl,rfl,rfl,rfl,rfl,rfl⟩
def Rt (s:By) (w:World) (h0:1<=s.length) (hs:s.length<=128) :
 qC 149 #[.string (ba s)] w fun e w'=>lL (elemL s) e w'/\qW w w':=by
 cases h1:pre [42,42] s with
 | true=>exact gg s w h0 hs h1
 | false=>cases h2:at8 s 0 == 42 with
  | true=>exact bj s w h0 hs h1 h2
  | false=>cases h3:at8 s 0 == 63 with
   | true=>exact ev s w h0 hs h1 h2 h3
   | false=>cases h4:at8 s 0 == 91 with
    | true=>exact dy s w h0 hs h1 h2 h3 h4
    | false=>cases h5:at8 s 0 == 47 with
     | true=>exact Wr s w h0 hs h1 h2 h3 h4 h5
     | false=>exact ik s w h0 hs h1 h2 h3 h4 h5
end Go.Proofs.YtahkcemdbfjilaaGreatDoor.Glob
