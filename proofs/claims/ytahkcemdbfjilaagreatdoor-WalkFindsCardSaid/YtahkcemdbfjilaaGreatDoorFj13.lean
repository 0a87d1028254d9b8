/- Texts. Conditions: as said. -/
import Derived.Test.YtahkcemdbfjilaaGreatDoorFj00
import Derived.Deep.DeepCutAuto
import Derived.Test.YtahkcemdbfjilaaGreatDoorFj12
import Derived.Laws.OwnMore
import Derived.DeepKeys4
set_option linter.all false
set_option maxRecDepth 100000
set_option maxHeartbeats 32000000
namespace Go.Proofs.YtahkcemdbfjilaaGreatDoor.Glob
open Go.RowKit
def Bm (A:Pl):(fun j=>A j||j == 0)=fX true A:=by
 funext j;unfold fX;rw [Bool.true_and,Bool.or_comm]
def zA (A:Pl):fX false A=A:=by
 funext j;unfold fX;rfl
def lK (p:Nat->Bool) (k:Nat):(List.range (k+1)).any p=((List.range k).any p||p k):=by
 rw [List.range_succ,List.any_append];simp
def mG (p:Nat->Bool) (n k:Nat) (h:k < n) (hp:p k=true):(List.range n).any p=true:=List.any_eq_true.2 ⟨k,List.mem_range.2 h,hp⟩
def nO (rooted:Bool) (hs:H) (path:By) (i:Nat):Bool:=atA rooted hs path i hs.length&&rV path i
def Jc (rooted:Bool) (hs:H) (path:By):mB rooted hs path=(decide (path.length<=160)&&(List.range (path.length+1)).any (nO rooted hs path)):=rfl
def Mf (g:Nat) (s:By) (p:Pt) (path:By) (w:World) (hp:PatIs w g s p) (hl:160 < path.length) :
 qC 158 #[.pointer (some ⟨g,0,none⟩),.string (ba path)] w fun e w'=>e=.returned (.bool (mB p.rooted p.hs path))/\qW w w':=by
 have HM:Hid (mB p.rooted p.hs path=false):=by show _=_;rw [Jc,decide_eq_false (by omega)];rfl
 have z:=aD path;have hi:(160:Int) < (path.length:Int):=by omega
 have hm:=vH hp;clear hl hp;go_enter Tryz.func158,Tryz.ntmps158
 go_wp2_with (go_at_call 192;refine hm.mono ?_;rintro e1 w1 ⟨rfl,rfl⟩)
 go_ret;exact ⟨aF HM.o.symm,Below.refl _ _⟩
def Ft (g:Nat) (s:By) (p:Pt) (path:By) (w:World) (hp:PatIs w g s p) (hl:path.length<=160) :
 qC 158 #[.pointer (some ⟨g,0,none⟩),.string (ba path)] w fun e w'=>e=.returned (.bool (mB p.rooted p.hs path))/\qW w w':=by
 have HM:Hid (mB p.rooted p.hs path=(List.range (path.length+1)).any (nO p.rooted p.hs path)):=by show _=_;rw [Jc,decide_eq_true hl];rfl
 have z:=aD path;have hi:¬((160:Int) < (path.length:Int)):=by omega
 have hm:=vH hp;obtain ⟨ge,cp,k3,hg,R8,hn,_⟩:=hp.els;have k2:w.cell? ⟨g,2,none⟩=some (.bool p.rooted):=by obtain ⟨A,c,n,_,_,_,h2,_⟩:=hp.cells;exact h2
 obtain ⟨W1,p3⟩:=qY (w.alloc (.cells Tryz.zeroCells258 258));have HZ:Hid (Has W1 w.heap.size 258 Tryz.zeroCells258):=p3▸Has.fresh _ _ _;have B1:qW w W1:=p3▸qB.alloc qN _;obtain ⟨W2,r7⟩:=qY (W1.setRow w.heap.size Tryz.zeroCells258);have H2:Hid (Has W2 w.heap.size 258 (plv (fun _=>false))):=r7▸rR▸HZ.o.row;have B2:Hid (qW w W2):=r7▸B1.rowG qN _;have CS:Hid (∀A W,qW w W->qC 193 #[.pointer (some ⟨g,0,none⟩),.agg (plv A)] W fun e w'=>e=.returned (.agg (plv (skipA p.hs A)))/\qW W w'):=fun A W hW=>Tj g s p A W (hp.stays hW)
 have CP:Hid (∀A c W,qW w W->qC 194 #[.pointer (some ⟨g,0,none⟩),.agg (plv A),.int .u8 (b8 c)] W fun e w'=>e=.returned (.agg (plv (jP p.hs A c)))/\qW W w'):=fun A c W hW=>Tp g s p A c W (hp.stays hW)
 have NN:=hid k2;have HK3:=hid k3;rw [HM.o];generalize p.hs=hs at *;generalize p.rooted=rooted at *;clear hp HM B1 k2 k3;obtain ⟨ans,ux⟩:=qX ((List.range (path.length+1)).any (nO rooted hs path));rw [ux.o];go_enter Tryz.func158,Tryz.ntmps158
 go_wp2_with (first
  | (go_at_call 192;refine hm.mono ?_;rintro e1 w1 ⟨rfl,rfl⟩)
  | (refine wpList_store_row rfl 258 (.tmp 5) (.tmp 16) rfl w.heap.size Tryz.zeroCells258 rfl rfl 258 Tryz.zeroCells258 HZ.o iZ.o rfl fi.o ?_))
 go_loopw [6,7,20] (fun _ _ i wr=>∃k:Nat,i=.int .i64 (k:Int)/\k<=path.length+1/\Hid (k<=path.length->Has wr w.heap.size 258 (plv (preA rooted hs path k)))/\Hid ((List.range k).any (nO rooted hs path)=false)/\Hid (qW w wr))
  (fun _ _ i _=>path.length+1 - (intOf i).toNat)
 case atStart=>exact ⟨0,rfl,Nat.zero_le _,fun _=>H2.o,rfl,B2⟩
 obtain ⟨k,rfl,hk,J1,JN,JB⟩:=hrel;by_cases d8:k < path.length+1
 .
  have k2:=(JB.o.cell (p:=⟨g,2,none⟩) hg).trans NN.o;have X:=hid (J1.o (by omega));clear J1;have hkk:k<=path.length:=by omega
  go_upto_region 7 with (fail)
  go_cut [20,38] from 20 to 71 (fun c t w'=>c=.int .i64 (k:Int)/\t=.bool (startB rooted path k)/\wr=w')
  case first=>as_aux_lemma =>
   by_cases h0:k=0
   . have HT:Hid (startB rooted path k=true):=by show _=_;unfold startB;rw [h0];rfl
     have e0:((k:Int) == 0)=true:=by simp [h0]
     clear h0;go_wp2;go_meet
     case rel=>exact ⟨rfl,by rw [HT.o],rfl⟩
   .
    have e0:((k:Int) == 0)=false:=by simp [h0]
    obtain ⟨j,hj⟩:=qY (k - 1);have ej:(k:Int) - 1=(j:Int):=by omega
    have ij:=aX path j (by omega);have HT:Hid (startB rooted path k=((at8 path j == 47)&&!rooted)):=by
     show _=_;unfold startB;rw [hj,show (k == 0)=false by simp [h0]];rfl
    have q7:(b8 (at8 path j) == 47)=(at8 path j == 47):=aL _ 47;generalize at8 path j=x at ij HT q7;obtain ⟨bq,sl⟩:=qY ((x == 47));rw [sl] at q7 HT;clear h0 hj sl
    cases bq with
    | false =>
     go_wp2;go_meet
     case rel=>exact ⟨rfl,by rw [HT.o];rfl,rfl⟩
    | true =>
     go_wp2;go_meet
     case rel=>exact ⟨rfl,by rw [HT.o];rfl,rfl⟩
  obtain ⟨rfl,rfl,rfl⟩:=hcut;obtain ⟨b,hb⟩:=qY (startB rooted path k);rw [hb];go_upto_if 38 with (fail)
  go_cut [20] from 20 to 71 (fun c w'=>c=.int .i64 (k:Int)/\Hid (Has w' w.heap.size 258 (plv (fX b (preA rooted hs path k))))/\Hid (qW w w'))
  case first=>as_aux_lemma =>
   have qz:wr.cell? ⟨w.heap.size,0,none⟩=some (.bool (preA rooted hs path k 0)):=(X.o.at_ 0).trans (lG _ 0 (by omega));have fz:=X.o.free 0;clear hb
   cases b with
   | true =>
    go_wp2;go_meet
    case rel =>
     refine ⟨rfl,?_,JB.o.setCell qN _⟩;have:=X.o.put 0 (.bool true);rw [tS,Bm] at this;exact this
   | false =>
    go_wp2;go_meet
    case rel=>exact ⟨rfl,by rw [zA];exact X,JB⟩
  obtain ⟨rfl,X0,XB0⟩:=hcut;obtain ⟨at_,vr⟩:=qX (atA rooted hs path k);have HAT2:Hid (skipA hs (fX b (preA rooted hs path k))=at_):=by show _=_;rw [<-hb];exact vr.o
  have CK:=hid (CS.o (fX b (preA rooted hs path k)) wc XB0.o);rw [HAT2.o] at CK;generalize fX b (preA rooted hs path k)=sa at X0 CK;obtain ⟨en,NQ⟩:=qY ((k == path.length));have e7:((k:Int) == (path.length:Int))=en:=by rw [<-NQ,Bool.eq_iff_iff];simp;omega
  have CV:=hid NQ;clear hb NQ HAT2 X JB k2;go_upto_region 11 with (first
   | (refine wpList_load_row rfl 258 _ rfl w.heap.size rfl 258 _ (0,0) _ X0.o Tryz.underlying258 rfl (gV _) ?_)
   | (go_at_call 193;refine CK.o.mono ?_;rintro e1 w1 ⟨rfl,c8⟩
      have X1:=hid (X0.o.stays c8);have XB1:=hid (XB0.o.thenG c8);obtain ⟨Wz,hWz⟩:=qY (w1.setRow w.heap.size (plv at_));have X2:Hid (Has Wz w.heap.size 258 (plv at_)):=hWz▸X1.o.row;have XB:Hid (qW w Wz):=hWz▸XB1.o.rowG qN _;clear c8)
   | (refine wpList_store_row rfl 258 (.tmp 5) (.tmp 42) rfl w.heap.size (plv at_) rfl rfl 258 _ X1.o (gV _) (by rw [gM,gM]) (tP _) ?_))
  have qn:Wz.cell? ⟨w.heap.size,hs.length,none⟩=some (.bool (at_ hs.length)):=(X2.o.at_ _).trans (lG _ _ (by omega));have k3z:=(XB.o.cell (p:=⟨g,3,none⟩) hg).trans HK3.o;have xl:Hid (nO rooted hs path k=(at_ hs.length&&(en||(at8 path k == 47)))):=by show _=_;unfold nO rV;rw [vr.o,CV.o]
  go_cut [20,62] from 20 to 71 (fun c t w'=>c=.int .i64 (k:Int)/\t=.bool (nO rooted hs path k)/\Wz=w')
  case first=>as_aux_lemma =>
   generalize at_ hs.length=an at qn xl
   cases an with
   | false =>
    go_wp2;go_meet
    case rel=>exact ⟨rfl,by rw [xl.o];rfl,rfl⟩
   | true =>
    cases en with
    | true =>
     go_wp2;go_meet
     case rel=>exact ⟨rfl,by rw [xl.o];rfl,rfl⟩
    | false =>
     have ij:=aX path k (by have:=CV.o;simp at this;omega);have q7:(b8 (at8 path k) == 47)=(at8 path k == 47):=aL _ 47;generalize at8 path k=x at *;obtain ⟨bq,sl⟩:=qY ((x == 47));rw [sl] at q7 xl;clear sl;go_wp2;go_meet
     case rel=>exact ⟨rfl,by rw [xl.o];rfl,rfl⟩
  obtain ⟨rfl,rfl,rfl⟩:=hcut;have OP:Hid (nO rooted hs path k=true->ans=true):=fun h=>by rw [<-ux.o];exact mG _ _ k (by omega) h
  have tu:=hid (lK (nO rooted hs path) k);obtain ⟨VN,uy⟩:=qY (nO rooted hs path k);rw [uy] at OP tu;rw [uy];clear qn k3z xl uy
  cases VN with
  | true =>
   go_wp2;go_ret;exact ⟨aF (OP.o (by first | rfl | trivial)).symm,XB.o⟩
  | false =>
   have EA:Hid ((List.range (k+1)).any (nO rooted hs path)=false):=by show _=_;rw [tu.o,JN.o];rfl
   clear OP tu
   cases en with
   | true =>
    have ow:Hid (k=path.length):=by have:=CV.o;show _=_;simpa using this
    go_wp2;exact ⟨⟨k+1,by go_num,by omega,fun h=>by have:=ow.o;omega,EA.o,XB.o⟩,by simp [intOf];omega⟩
   | false =>
    have QI:Hid (∀W,(Instr.index 9 (.string (ba path)) (.int .i64 (k:Int))).run Tryz.prog W=.ok (.int .u8 (b8 (at8 path k))) W):=aX path k (by have:=CV.o;simp at this;omega);have CT:Hid (∀W,qW w W->qC 194 #[.pointer (some ⟨g,0,none⟩),.agg (plv at_),.int .u8 (b8 (at8 path k))] W fun e w'=>e=.returned (.agg (plv (jP hs at_ (at8 path k))))/\qW W w'):=fun W hW=>CP.o at_ (at8 path k) W hW
    have C9:Hid (jP hs at_ (at8 path k)=preA rooted hs path (k+1)):=by show _=_;rw [<-vr.o];rfl
    generalize at8 path k=x at QI CT C9;generalize jP hs at_ x=st_ at CT C9;go_wp2;refine qG (S:=fun _=>True) (by kernel_rfl) (trivial) (fun hS=>?_);refine qK 0 rfl (by kernel_rfl) ‹_› (fun w a8=>by go_simp;with_reducible rfl) ?_;simp only [Act.put,aB,aA,aC];refine aG 2 ?_
    iterate 2
     refine qT rfl (by kernel_rfl) ‹_› (fun w a8=>by go_simp;with_reducible rfl) ?_;simp only [Act.put,aB,aA,aC,Nat.reduceAdd]
    refine aE ?_;refine qK 4 rfl (by kernel_rfl) ‹_› (fun w a8=>by have qi:=QI.o w;go_simp;with_reducible rfl) ?_;simp only [Act.put,aB,aA,aC];refine qD 1 rfl (by kernel_rfl) fun K hK=>?_
    rw [if_pos (by rfl)];refine wp_load_row 258 (.tmp 5) rfl w.heap.size rfl 258 (plv at_) (0,0) _ (X2.o.drawn 1) Tryz.underlying258 rfl (gV _) ?_;refine hK.o _ _ trivial (fun hS=>?_);clear hK K hS;simp only [Act.put,aB,aA,aC];refine qD 5 rfl (by kernel_rfl) fun K hK=>?_
    go_simp;refine (CT.o _ XB.o.drew).mono ?_;rintro e9 y9 ⟨rfl,x7⟩;have Y1:=hid (Has.stays (w:=Wz.drew) (X2.o.drawn 1) x7);have YB:Hid (qW w y9):=XB.o.drew.thenG x7;have g8:=trivial;refine hK.o _ _ g8 (fun hS=>?_);clear hK K hS;refine qD 6 rfl (by kernel_rfl) fun K hK=>?_
    rw [if_pos (by rfl)];refine wp_store_row 258 (.tmp 5) (.tmp 70) rfl w.heap.size (plv st_) rfl rfl 258 _ Y1.o (gV _) (by rw [gM,gM]) (tP _) ?_;refine hK.o _ _ trivial (fun hS=>?_);clear hK K hS;refine qM (by kernel_rfl) ?_;go_wp2;exact ⟨⟨k+1,by go_num,by omega,fun _=>C9.o▸Y1.o.row,EA.o,YB.o.rowG qN _⟩,by simp [intOf];omega⟩
 have HF:Hid (ans=false):=by have:=JN.o;rw [show k=path.length+1 by omega,ux.o] at this;exact this
 have Q9:¬((k:Int) < (path.length:Int)+1):=by omega
 clear J1 d8;go_wp2;go_ret;exact ⟨aF HF.o.symm,JB.o⟩
def Pp (g:Nat) (s:By) (p:Pt) (path:By) (w:World) (hp:PatIs w g s p) :
 qC 158 #[.pointer (some ⟨g,0,none⟩),.string (ba path)] w fun e w'=>e=.returned (.bool (mB p.rooted p.hs path))/\qW w w':=by
 by_cases hl:160 < path.length
 . exact Mf g s p path w hp hl
 exact Ft g s p path w hp (by omega)
def perr (s:By):Int:=if 128 < s.length then 3 else match parseL s with | none=>4 | some _=>0
def parse_cases {s:By} {e:Ending} {w:World} (h:gB s e w):((∃k:Int,k≠0/\perr s=k/\e=.returned (.tuple #[.pointer none,.int .i64 k]))∨∃p g,¬128 < s.length/\parseL s=some p/\perr s=0/\e=.returned (.tuple #[.pointer (some ⟨g,0,none⟩),.int .i64 0])/\PatIs w g s p):=by
 unfold gB at h;unfold perr;by_cases hl:128 < s.length
 . rw [if_pos hl] at h ⊢
   exact .inl ⟨3,by decide,rfl,h⟩
 rw [if_neg hl] at h ⊢
 cases hp:parseL s with
 | none=>rw [hp] at h;exact .inl ⟨4,by decide,rfl,h⟩
 | some p =>
  rw [hp] at h;obtain ⟨g,h1,h2⟩:=h;exact .inr ⟨p,g,hl,rfl,rfl,h1,h2⟩
abbrev Fl:=List (By × By)
def blk (c:UInt8):Bool:=(c == 32)||(c == 9)
def aN (s:By):By:=(s.reverse.dropWhile blk).reverse
def trimB (s:By):By:=(aN s).dropWhile blk
def cutN:By->By × By × Bool
 | []=>([],[],false)
 | c :: l=>if c=10 then ([],l,true) else (c :: (cutN l).1,(cutN l).2.1,(cutN l).2.2)
def bu (l:By):Lib.cut l [10]=cutN l:=by
 induction l with
 | nil=>rfl
 | cons c l ih =>
  have R8:=Lib.index_ge l [10];unfold Lib.cut Lib.index cutN;by_cases hc:c=10
  . subst hc;rfl
  have h1:[10].isPrefixOf (c :: l)=false:=by simp [List.isPrefixOf,Ne.symm hc]
  rw [if_neg (show ¬[10].isPrefixOf (c :: l)=true by rw [h1];decide),if_neg hc,<-ih];unfold Lib.cut;by_cases hi:Lib.index l [10] = -1
  . rw [hi];rfl
  have h0:(0:Int)<=Lib.index l [10]:=by omega
  have h2:¬(Lib.index l [10] == -1)=true:=by simpa using hi
  rw [if_neg h2,if_pos h0,if_pos (show (0:Int)<=Lib.index l [10]+1 by omega)];obtain ⟨n,hn⟩:=Int.eq_ofNat_of_zero_le h0;rw [hn];have e:((n:Int)+1).toNat=n+1:=by omega
  simp only [e,Int.toNat_natCast,List.take_succ_cons,List.length_singleton];rw [show n+1+1=(n+1)+1 from rfl,List.drop_succ_cons]
def bE (l:By):(cutN l).2.1.length<=l.length/\(cutN l).1.length<=l.length/\((cutN l).2.2=true->(cutN l).2.1.length < l.length):=by
 induction l with
 | nil=>simp [cutN]
 | cons c l ih =>
  unfold cutN;by_cases hc:c=10
  . simp [hc]
  rw [if_neg hc];simp only [List.length_cons];refine ⟨by omega,by omega,fun h=>by have:=ih.2.2 h;omega⟩
def rowsN:By->List By
 | []=>[[]]
 | c :: l=>if c=10 then [] :: rowsN l else match rowsN l with | p :: ps=>(c :: p) :: ps | []=>[[c]]
def bB (l:By):rowsN l=if (cutN l).2.2 then (cutN l).1 :: rowsN (cutN l).2.1 else [(cutN l).1]:=by
 induction l with
 | nil=>rfl
 | cons c l ih =>
  rw [rowsN,cutN];by_cases hc:c=10
  . rw [if_pos hc,if_pos hc,if_pos rfl]
  rw [if_neg hc,if_neg hc,ih]
  cases h:(cutN l).2.2
  . rfl
  rfl
def idle (s:By):Bool:=decide (s=[])||pre [47,47] s
def linesL (l:By):List By:=((rowsN l).map trimB).filter fun s=>!idle s
def Ng (l:By):linesL l=(if idle (trimB (cutN l).1) then [] else [trimB (cutN l).1])++(if (cutN l).2.2 then linesL (cutN l).2.1 else []):=by
 unfold linesL;rw [bB]
 cases (cutN l).2.2<;>cases h:idle (trimB (cutN l).1)<;>simp [h]
def zI (s:By):(aN s).length<=s.length:=by
 unfold aN;rw [List.length_reverse];have:=(List.dropWhile_suffix blk (l:=s.reverse)).length_le;simpa using this
def As (s:By):(trimB s).length<=s.length:=by
 unfold trimB;exact Nat.le_trans (List.dropWhile_suffix blk).length_le (zI s)
def eJ (n:Nat):∀l:By,l.length<=n->∀p∈rowsN l,p.length<=l.length:=by
 induction n with
 | zero=>intro l h p hp;obtain rfl:=List.length_eq_zero_iff.1 (Nat.le_zero.1 h);simp [rowsN] at hp;simp [hp]
 | succ n ih =>
  intro l h p hp;rw [bB] at hp;have h1:=bE l;split at hp
  . rename_i hc
    rcases List.mem_cons.1 hp with rfl | hp
    . exact h1.2.1
    exact Nat.le_trans (ih _ (by have:=h1.2.2 hc;omega) p hp) h1.1
  simp only [List.mem_singleton] at hp;subst hp;exact h1.2.1
def xN {l s:By} (h:s∈linesL l):s.length<=l.length:=by
 unfold linesL at h;obtain ⟨h1,_⟩:=List.mem_filter.1 h;obtain ⟨p,hp,rfl⟩:=List.mem_map.1 h1;exact Nat.le_trans (As p) (eJ _ l qN p hp)
def incM:By:=[35,105,110,99,108,117,100,101,32]
def bQ (fs:Fl) (name:By):Option By:=match fs.find? (fun f=>f.1 == name) with | none=>none | some f=>some f.2
def stepL (rd:By->List By->Except Int (List By)):List By->List By->Except Int (List By)
 | [],ps=>.ok ps
 | s :: ls,ps =>
  if pre incM s then match rd (s.drop 9) ps with | .error e=>.error e | .ok qs=>stepL rd ls qs
  else if ps.length=64 then .error 3 else if perr s≠0 then .error (perr s) else stepL rd ls (ps++[s])
def readL (fs:Fl):Nat->List By->By->List By->Except Int (List By)
 | 0,within,name,_=>match bQ fs name with | none=>.error 5 | some _=>if name∈within then .error 22 else .error 3
 | k+1,within,name,ps=>match bQ fs name with | none=>.error 5 | some t=>if name∈within then .error 22 else stepL (readL fs k (within++[name])) (linesL t) ps
def flatS (rd:By->Option (List By)):List By->Option (List By)
 | []=>some []
 | s :: ls =>
  if pre incM s then match rd (s.drop 9),flatS rd ls with | some a,some b=>some (a++b) | _,_=>none
  else if perr s≠0 then none else match flatS rd ls with | some b=>some (s :: b) | none=>none
def flat (fs:Fl):Nat->By->Option (List By)
 | 0,_=>none
 | k+1,name=>match bQ fs name with | none=>none | some t=>flatS (flat fs k) (linesL t)
def Lp {rd rd':By->Option (List By)} (h:∀y l,rd y=some l->rd' y=some l):∀ls l,flatS rd ls=some l->flatS rd' ls=some l:=by
 intro ls;induction ls with
 | nil=>intro l hl;exact hl
 | cons s ls ih =>
  intro l hl;unfold flatS at hl ⊢;split at hl
  .
   rename_i hp
   rw [if_pos hp]
   cases h1:rd (s.drop 9) with
   | none=>rw [h1] at hl;cases hl
   | some a =>
    cases h2:flatS rd ls with
    | none=>rw [h1,h2] at hl;cases hl
    | some b=>rw [h1,h2] at hl;rw [h _ _ h1,ih _ h2];exact hl
  rename_i hp
  rw [if_neg hp];split at hl
  . cases hl
  rename_i hq
  rw [if_neg hq]
  cases h2:flatS rd ls with
  | none=>rw [h2] at hl;cases hl
  | some b=>rw [h2] at hl;rw [ih _ h2];exact hl
def wZ (fs:Fl) (k:Nat):∀name l,flat fs k name=some l->flat fs (k+1) name=some l:=by
 induction k with
 | zero=>intro name l h;cases h
 | succ k ih =>
  intro name l h;unfold flat at h ⊢
  cases hf:bQ fs name with
  | none=>rw [hf] at h;cases h
  | some t=>rw [hf] at h;exact Lp ih _ _ h
def Su {fs:Fl} {k k':Nat} (hk:k<=k') {name:By} {l:List By} (h:flat fs k name=some l):flat fs k' name=some l:=by
 induction hk with
 | refl=>exact h
 | step _ ih=>exact wZ _ _ _ _ ih
def sB {rd:By->Option (List By)}:∀{ls:List By} {l:List By},flatS rd ls=some l->∀s∈ls,pre incM s=true->(rd (s.drop 9)).isSome
 | [],_,_,s,hs,_=>by cases hs
 | t :: ls,l,h,s,hs,hp=>by
  unfold flatS at h;split at h
  .
   cases h1:rd (t.drop 9) with
   | none=>rw [h1] at h;cases h
   | some a =>
    cases h2:flatS rd ls with
    | none=>rw [h1,h2] at h;cases h
    | some b =>
     rcases List.mem_cons.1 hs with rfl | hs
     . rw [h1];rfl
     exact sB h2 s hs hp
  rename_i ht
  split at h
  . cases h
  cases h2:flatS rd ls with
  | none=>rw [h2] at h;cases h
  | some b =>
   rcases List.mem_cons.1 hs with rfl | hs
   . exact absurd hp ht
   exact sB h2 s hs hp
def Lg {rd:By->List By->Except Int (List By)} {rf:By->Option (List By)} (h:∀y ps qs,rd y ps=.ok qs->∃l,rf y=some l/\qs=ps++l) :
 ∀ls ps qs,stepL rd ls ps=.ok qs->∃l,flatS rf ls=some l/\qs=ps++l:=by
 intro ls;induction ls with
 | nil=>intro ps qs hq;simp only [stepL,Except.ok.injEq] at hq;exact ⟨[],rfl,by simp [hq]⟩
 | cons s ls ih =>
  intro ps qs hq;unfold stepL at hq;unfold flatS;split at hq
  .
   rename_i hp
   rw [if_pos hp]
   cases h1:rd (s.drop 9) ps with
   | error e=>rw [h1] at hq;cases hq
   | ok rs =>
    rw [h1] at hq;obtain ⟨a,ha,rfl⟩:=h _ _ _ h1;obtain ⟨b,hb,rfl⟩:=ih _ _ hq;exact ⟨a++b,by rw [ha,hb],by simp⟩
  rename_i hp
  rw [if_neg hp];split at hq
  . cases hq
  split at hq
  . cases hq
  rename_i he
  rw [if_neg he];obtain ⟨b,hb,rfl⟩:=ih _ _ hq;exact ⟨s :: b,by rw [hb],by simp⟩
def wT (fs:Fl) (k:Nat):∀within name ps qs,readL fs k within name ps=.ok qs->∃l,flat fs k name=some l/\qs=ps++l:=by
 induction k with
 | zero =>
  intro within name ps qs h;unfold readL at h;split at h
  . cases h
  split at h<;>cases h
 | succ k ih =>
  intro within name ps qs h;unfold readL at h;unfold flat
  cases hf:bQ fs name with
  | none=>rw [hf] at h;cases h
  | some t =>
   rw [hf] at h;simp only at h;split at h
   . cases h
   exact Lg (fun y ps qs=>ih _ y ps qs) _ _ _ h
def eZ (fs:Fl) (within:List By) (name:By):Prop:=∀x∈within,∀j,(flat fs (j+1) x).isSome->(flat fs j name).isSome
def eZ.nil (fs:Fl) (name:By):eZ fs [] name:=fun x hx=>by cases hx
def eZ.free {fs:Fl} {within:List By} {name:By} (h:eZ fs within name) {k:Nat} {l:List By} (hf:flat fs k name=some l):name∉within:=by
 intro hm;have:∀j,(flat fs j name).isSome->False:=by
  intro j;induction j with
  | zero=>intro h0;cases h0
  | succ j ih=>intro h0;exact ih (h name hm j h0)
 exact this k (by rw [hf];rfl)
def eZ.down {fs:Fl} {within:List By} {name t:By} (h:eZ fs within name) (hf:bQ fs name=some t) {s:By} (hs:s∈linesL t) (hp:pre incM s=true):eZ fs (within++[name]) (s.drop 9):=by
 have key:∀j,(flat fs (j+1) name).isSome->(flat fs j (s.drop 9)).isSome:=by
  intro j hj
  cases hv:flat fs (j+1) name with
  | none=>rw [hv] at hj;cases hj
  | some v=>unfold flat at hv;rw [hf] at hv;exact sB hv s hs hp
 intro x hx j hj;rcases List.mem_append.1 hx with hx | hx
 .
  have h1:=h x hx j hj
  cases j with
  | zero=>cases h1
  | succ j =>
   have h2:=key j h1
   cases hv:flat fs j (s.drop 9) with
   | none=>rw [hv] at h2;cases h2
   | some v=>rw [wZ _ _ _ _ hv];rfl
 obtain rfl:=List.mem_singleton.1 hx;exact key j hj
def gZ (ps l:List By):Except Int (List By):=if ps.length+l.length<=64 then .ok (ps++l) else .error 3
def Po {rd:By->List By->Except Int (List By)} {rf:By->Option (List By)}:∀ls l ps,(∀s∈ls,pre incM s=true->∀a qs,rf (s.drop 9)=some a->qs.length<=64->rd (s.drop 9) qs=gZ qs a)->flatS rf ls=some l->ps.length<=64->stepL rd ls ps=gZ ps l:=by
 intro ls;induction ls with
 | nil =>
  intro l ps _ hl hp;simp only [flatS,Option.some.injEq] at hl;subst hl;unfold stepL gZ;rw [if_pos (by simpa using hp)];simp
 | cons s ls ih =>
  intro l ps h hl hp;unfold flatS at hl;unfold stepL;split at hl
  .
   rename_i hi
   rw [if_pos hi]
   cases h1:rf (s.drop 9) with
   | none=>rw [h1] at hl;cases hl
   | some a =>
    cases h2:flatS rf ls with
    | none=>rw [h1,h2] at hl;cases hl
    | some b =>
     rw [h1,h2] at hl;simp only [Option.some.injEq] at hl;subst hl;rw [h s (by simp) hi a ps h1 hp];unfold gZ;by_cases hq:ps.length+a.length<=64
     . rw [if_pos hq]
       simp only;rw [ih b (ps++a) (fun t ht=>h t (by simp [ht])) h2 (by simpa using hq)];unfold gZ;simp only [List.length_append,List.append_assoc,Nat.add_assoc]
     rw [if_neg hq,if_neg (by simp only [List.length_append];omega)]
  rename_i hi
  rw [if_neg hi];split at hl
  . cases hl
  rename_i he
  cases h2:flatS rf ls with
  | none=>rw [h2] at hl;cases hl
  | some b =>
   rw [h2] at hl;simp only [Option.some.injEq] at hl;subst hl;by_cases D7:ps.length=64
   . rw [if_pos D7];unfold gZ;rw [if_neg (by simp only [List.length_cons];omega)]
   rw [if_neg D7,if_neg he,ih b (ps++[s]) (fun t ht=>h t (by simp [ht])) h2 (by simp;omega)];unfold gZ;simp only [List.length_append,List.length_cons,List.length_nil,List.append_assoc,List.cons_append,List.nil_append,Nat.add_assoc,Nat.add_comm 1]
def Qp (fs:Fl) (k:Nat):∀within name ps l,flat fs k name=some l->eZ fs within name->ps.length<=64->readL fs k within name ps=gZ ps l:=by
 induction k with
 | zero=>intro within name ps l h;cases h
 | succ k ih =>
  intro within name ps l h hc hp;have hfree:=hc.free h;unfold readL;unfold flat at h
  cases hf:bQ fs name with
  | none=>rw [hf] at h;cases h
  | some t =>
   rw [hf] at h;simp only;rw [if_neg hfree];exact Po _ _ _ (fun s hs hi a qs ha hq=>ih _ _ _ _ ha (hc.down hf hs hi) hq) h hp
def Wj {rd:By->List By->Except Int (List By)} (h:∀y ps qs,rd y ps=.ok qs->ps.length<=64->qs.length<=64):∀ls ps qs,stepL rd ls ps=.ok qs->ps.length<=64->qs.length<=64:=by
 intro ls;induction ls with
 | nil=>intro ps qs hq hp;simp only [stepL,Except.ok.injEq] at hq;rw [<-hq];exact hp
 | cons s ls ih =>
  intro ps qs hq hp;unfold stepL at hq;split at hq
  . cases h1:rd (s.drop 9) ps with
    | error e=>rw [h1] at hq;cases hq
    | ok rs=>rw [h1] at hq;exact ih _ _ hq (h _ _ _ h1 hp)
  split at hq
  . cases hq
  split at hq
  . cases hq
  exact ih _ _ hq (by simp;omega)
def pL (fs:Fl) (k:Nat):∀within name ps qs,readL fs k within name ps=.ok qs->ps.length<=64->qs.length<=64:=by
 induction k with
 | zero =>
  intro within name ps qs h;unfold readL at h;split at h
  . cases h
  split at h<;>cases h
 | succ k ih =>
  intro within name ps qs h hp;unfold readL at h;split at h
  . cases h
  split at h
  . cases h
  exact Wj (fun y ps qs=>ih _ y ps qs) _ _ _ h hp
open Go.RowKit Go.Maps
def kL {w w':World} {B:Nat} {e:TypeId} {s n:Nat} {v:Value} {xs:List Value} (h:w.ownsRow B e s v n xs) (hk:∀k,v.ownBlock=some k->w'.heap[k]? = w.heap[k]?):w'.ownsRow B e s v n xs:=by
 refine ⟨h.1,?_⟩;rcases h.2 with h1 | ⟨g,c,cur,rfl,hB,h3,h4⟩
 . exact .inl h1
 exact .inr ⟨g,c,cur,rfl,hB,(hk g rfl).trans h3,h4⟩
def own_below {w w':World} {B:Nat} {e:TypeId} {s n:Nat} {v:Value} {xs:List Value} (h:w.ownsRow B e s v n xs) (hb:qW w w'):w'.ownsRow B e s v n xs:=by
 refine kL h fun k hk=>?_
 rcases h.2 with ⟨rfl,_⟩ | ⟨g,c,cur,rfl,hB,h3,h4⟩
 . cases hk
 obtain rfl:=Option.some.inj hk;exact hb.block g (Array.getElem?_eq_some_iff.1 h3).1
def aS {w:World} {B:Nat} {e:TypeId} {s n:Nat} {v:Value} {xs:List Value} (h:w.ownsRow B e s v n xs):∀k,v.ownBlock=some k->B<=k/\k < w.heap.size:=by
 intro k hk;rcases h.2 with ⟨rfl,_⟩ | ⟨g,c,cur,rfl,hB,h3,h4⟩
 . cases hk
 obtain rfl:=Option.some.inj hk;exact ⟨hB,(Array.getElem?_eq_some_iff.1 h3).1⟩
def aO {w:World} {B:Nat} {e:TypeId} {s n:Nat} {v:Value} {xs:List Value} (h:w.ownsRow B e s v n xs):∃A c,v=.slice A n c:=by
 rcases h.2 with ⟨rfl,rfl⟩ | ⟨g,c,cur,rfl,_⟩
 . exact ⟨_,_,rfl⟩
 exact ⟨_,_,rfl⟩
def qO {w:World} {B B':Nat} {e:TypeId} {s n:Nat} {v:Value} {xs:List Value} (h:w.ownsRow B e s v n xs) (hb:B'<=B):w.ownsRow B' e s v n xs:=by
 refine ⟨h.1,?_⟩;rcases h.2 with h1 | ⟨g,c,cur,rfl,hB,h3⟩
 . exact .inl h1
 exact .inr ⟨g,c,cur,rfl,by omega,h3⟩
def sX {w:World} {B:Nat} {e:TypeId} {s n:Nat} {v:Value} {xs:List Value} (h:w.ownsRow B e s v n xs) (h0:0 < n) :
 ∃g c,v=.slice (some ⟨g,0,none⟩) n c/\B<=g/\g < w.heap.size/\n<=c/\(∀j u,xs[j]? = some u->w.cell? ⟨g,j,none⟩=some u):=by
 rcases h.2 with ⟨_,h2⟩ | ⟨g,c,cur,rfl,hB,h3,h4,h5,h6,h7⟩
 . omega
 refine ⟨g,c,rfl,hB,(Array.getElem?_eq_some_iff.1 h3).1,h4,fun j u hj=>?_⟩;have hh:Has w g e cur:=h3;rw [hh.at_,<-Array.getElem?_toList];rw [<-h7] at hj;have EB:j < n*s:=by have:=(List.getElem?_eq_some_iff.1 hj).1;simp at this;omega
 rw [List.getElem?_take_of_lt EB] at hj;exact hj
def xF {w:World} {B:Nat} {t ty e:TypeId} {i:TypeInfo} {z:Value} {size bytes:Nat} (ht:Tryz.prog.underlying t=some (.slice e)) (hi:Tryz.prog.info? e=some i) (hz:i.zero=some z)
 (vy:i.size=size) (hby:i.bytes=bytes) (hzs:z.cells.size=size) (p9:0 < size) {v:Value} {n:Nat} {xs:List Value} (f9:w.ownsRow B e size v n xs)
 {a:Addr} {m c:Nat} {news:List Value} (hl:news.length=m*size) (AH:∀(j:Nat) u,news[j]? = some u->w.cell? (a.add j)=some u) (h1:∀u∈news,u.oneCell'=true)
 (hb:(n+m)*bytes<=140737488355328) (h63:n+m<=1000000) (hbase:B<=w.heap.size) :
 ∃v' w',(Builtin.append_ #[t,t] ty #[v,.slice (some a) m c]).run Tryz.prog w=.ok v' w'/\w'.ownsRow B e size v' (n+m) (xs++news)/\w'.ownsRow B e size v n xs/\w.grownBy w' v.ownBlock/\(v'.ownBlock=v.ownBlock∨v'.ownBlock=some w.heap.size):=by
 obtain ⟨v',w',hr,ho,hg,_,hk⟩:=run_append_own_at (P:=Tryz.prog) w B t ty e i z size bytes ht hi hz vy hby hzs p9 v n xs f9 a m c news hl AH h1 (by unfold maxLen;omega) hb hbase;refine ⟨v',w',hr,ho,?_,hg,hk⟩;rcases f9.2 with ⟨rfl,rfl⟩ | ⟨g,cap,cur,rfl,K8,h3,hnc,RJ,s6,htake⟩
 . exact ⟨f9.1,.inl ⟨rfl,rfl⟩⟩
 by_cases hroom:n+m<=cap
 .
  obtain ⟨w2,SH,RZ,mn⟩:=run_append_fits (P:=Tryz.prog) w B t ty e i size ht hi vy g n cap xs f9 a m c news hl AH h1 hroom;have e2:=hr.symm.trans SH;simp only [Result.ok.injEq] at e2;obtain ⟨rfl,rfl⟩:=e2;refine ⟨f9.1,.inr ?_⟩;rcases RZ.2 with ⟨h,_⟩ | ⟨g',cap',cur',h,hB',h3',_,_,hcs',ht'⟩
  . simp at h
  simp only [Value.slice.injEq,Option.some.injEq,Addr.mk.injEq,and_true,true_and] at h;obtain ⟨rfl,rfl⟩:=h;refine ⟨g,cap,cur',rfl,K8,h3',hnc,RJ,hcs',?_⟩;have:=congrArg (List.take (n*size)) ht';rw [List.take_take,Nat.min_eq_left (Nat.mul_le_mul_right _ (by omega)),<-f9.1,List.take_left] at this;rw [<-f9.1];exact this
 have SH:=run_append_grow (P:=Tryz.prog) w t ty e i z ht hi hz ⟨g,0,none⟩ n cap xs (by rw [f9.1,vy]) (f9.cells (g:=g) rfl) a m c news (by rw [hl,vy]) AH (by omega) (by omega) (growslice_fits (by omega) (by rw [hby];exact hb));have e2:=hr.symm.trans SH;simp only [Result.ok.injEq] at e2;obtain ⟨rfl,rfl⟩:=e2;exact ⟨f9.1,.inr ⟨g,cap,cur,rfl,K8,(heap_alloc_old w.drew _ (Array.getElem?_eq_some_iff.1 h3).1).trans h3,hnc,RJ,s6,htake⟩⟩
def bM {w w':World} {row:Option Nat} {B:Nat} {a:World} (hg:w.grownBy w' row) (hb:Below B a w) (hr:∀k,row=some k->B<=k) (hB:B<=w.heap.size):Below B a w' :=
 hb.trans ⟨hg.os,hg.tape,hg.output,hg.size,fun k hk=>hg.block k (by omega) fun e=>by have:=hr k e.symm;omega⟩
def Rv (v:Value):Option (DataW Value × List MemPlace):=some (.held v,[])
def bV:Keyed Tryz.prog 9:=string_keyed Tryz.underlying9
def eE (s:By) (hs:s.length<=maxLen):keyOf Tryz.prog 9 (.string (ba s))=some (.string s):=by
 rw [keyOf_string Tryz.underlying9];simp [mapKey,Tryz.underlying9,aD,hs];rfl
def MapZ (w:World) (z:Value) (b c:Nat) (f:Value->Option Value):Prop :=
 ∃D:DataW Value,w.ownsMap Tryz.prog 9 Rv b c D/\size D=c/\∀x kl,keyOf Tryz.prog 9 x=some kl->has D kl=(f x).isSome/\D.atKey kl (.held z)=.held ((f x).getD z)
section
variable {w w':World} {z:Value} {b c:Nat} {f:Value->Option Value} {t e:TypeId}
theorem MapZ.kept (h:MapZ w z b c f) (he:w'.heap[b]? = w.heap[b]?):MapZ w' z b c f:=by
 obtain ⟨D,⟨es,clock,hb,r⟩,h2⟩:=h;exact ⟨D,⟨es,clock,he.trans hb,r⟩,h2⟩
theorem MapZ.inside (h:MapZ w z b c f):b < w.heap.size:=by
 obtain ⟨D,h1,_⟩:=h;exact h1.lt
theorem MapZ.made (w:World) (z:Value):MapZ (w.alloc (.map #[] 0)) z w.heap.size 0 (fun _=>none) :=
 ⟨.map [],World.ownsMap_made w _ 9 Rv,rfl,fun _ _ _=>⟨rfl,rfl⟩⟩
theorem MapZ.obj (h:MapZ w z b c f):∃es clock,w.heap[b]? = some (.map es clock):=by
 obtain ⟨D,⟨es,clock,hb,_⟩,_⟩:=h;exact ⟨es,clock,hb⟩
theorem MapZ.lookOk (ht:Tryz.prog.underlying t=some (.map 9 e)) (h:MapZ w z b c f) (hz:(zeroValue e).run Tryz.prog w=.ok z w) {x:Value} {kl:Lit} (hk:keyOf Tryz.prog 9 x=some kl) :
 (Instr.lookup t (.map (some b)) x true).run Tryz.prog w=.ok (.tuple #[(f x).getD z,.bool (f x).isSome]) w:=by
 obtain ⟨D,h1,_,h3⟩:=h;obtain ⟨v,ps,hr,hv⟩:=h1.look_ok bV ht hz (zd:=.held z) (zp:=[]) rfl hk;rw [(h3 x kl hk).2] at hv;simp only [Rv,Option.some.injEq,Prod.mk.injEq,DataW.held.injEq] at hv;rw [hr,hv.1,(h3 x kl hk).1]
open Classical in
theorem MapZ.store (ht:Tryz.prog.underlying t=some (.map 9 e)) (h:MapZ w z b c f) (hc:c < 1000000000) {x v:Value} {kl:Lit} (hk:keyOf Tryz.prog 9 x=some kl) :
 ∃w',(Instr.mapUpdate t (.map (some b)) x v).run Tryz.prog w=.ok () w'/\MapZ w' z b (if (f x).isSome then c else c+1) (fun y=>if y=x then some v else f y)/\w.grownBy w' (some b):=by
 obtain ⟨D,h1,h2,h3⟩:=h;obtain ⟨w',hr,ho,hg⟩:=h1.store bV ht (by unfold maxLen;omega) (d:=.held v) (ps:=[]) hk rfl;refine ⟨w',hr,⟨D.put kl (.held v),?_,?_,?_⟩,hg.grown⟩
 .
  obtain ⟨es,clock,a1,a2,a3,a4⟩:=ho;refine ⟨es,clock,a1,a2,?_,a4⟩;have p9:=size_put (k:=kl) (h1.tidy bV) (.held v);rw [(h3 x kl hk).1,h2] at p9;rw [<-p9,a4];simp [size,length_sorted]
 . have p9:=size_put (k:=kl) (h1.tidy bV) (.held v)
   rw [(h3 x kl hk).1,h2] at p9;exact p9
 intro y VO Q9;by_cases hy:y=x
 . subst hy
   obtain rfl:kl=VO:=Option.some.inj (hk.symm.trans Q9);simp only [if_pos];exact ⟨has_put_same h1.isMap (bV.key hk) _,atKey_put_same h1.isMap (bV.key hk) _ _⟩
 have j3:VO≠kl:=fun e0=>hy (bV.inj Q9 (by rw [e0];exact hk))
 simp only [if_neg hy];rw [has_put_other j3,atKey_put_other j3];exact h3 y VO Q9
end
open Go.RowKit
def gE:Array Value:=Lib.setCells [32,9]
def Om (x:UInt8):gE[x.toNat]? = some (.bool (blk x)):=by
 unfold gE;rw [Lib.setCells_at];have:([32,9]:By).contains x=blk x:=by simp only [blk,List.contains,List.elem];cases x == 32<;>cases x == 9<;>rfl
 rw [this]
def uV:gE.size=256:=Lib.setCells_size _
def Ky:gE.all (·.oneCell')=true:=Lib.setCells_one _
attribute [irreducible] gE
def qQ (w:World) (g:Nat):Prop:=∀x:UInt8,w.cell? ⟨g,x.toNat,none⟩=some (.bool (blk x))
def qQ.of {w:World} {g:Nat} (h:Has w g 203 gE):qQ w g:=fun x=>by rw [h.at_];exact Om x
def xI (g:Nat) (x:UInt8) (w:World) (h:qQ w g):qC 179 #[.pointer (some ⟨g,0,none⟩),.int .u8 (b8 x)] w fun e w'=>e=.returned (.bool (blk x))/\w=w' :=
 (Tryz.asciiSet_contains g x (blk x) w (h x)).mono fun _ _ ⟨h1,h2⟩=>⟨h1,h2.symm⟩
def Sm (s:By) (g:Nat) (w:World) (hs:s.length<=100000) (hg:qQ w g) :
 qC 142 #[.string (ba s),.pointer (some ⟨g,0,none⟩)] w fun e w'=>e=.returned (.string (ba (s.dropWhile blk)))/\w=w':=by
 have HG:=hid hg;clear hg;go_enter Tryz.func142,Tryz.ntmps142
 go_wp2;go_loopw [0] (fun s0 wr=>∃t:By,s0=.string (ba t)/\t.length<=100000/\Hid (s.dropWhile blk=t.dropWhile blk)/\w=wr)
  (fun s0 _=>match s0 with | .string x=>x.size | _=>0)
 case atStart=>exact ⟨s,rfl,hs,rfl,rfl⟩
 obtain ⟨t,rfl,hl,HE,rfl⟩:=hrel;have z:=aD t
 cases t with
 | nil =>
  have g0:¬((0:Int) < (([]:By).length:Int)):=by simp
  go_wp2;go_ret;exact ⟨by rw [HE.o];rfl,rfl⟩
 | cons x u =>
  have g0:(0:Int) < ((x :: u).length:Int):=by simp only [List.length_cons];omega
  have g1:(1:Int)<=((x :: u).length:Int):=by simp only [List.length_cons];omega
  have i0:∀W,(Instr.index 9 (.string (ba (x :: u))) (.int .i64 0)).run Tryz.prog W=.ok (.int .u8 (b8 x)) W:=dL (x :: u) (by simp);have zd:(ba (x :: u)).extract 1 (x :: u).length=ba u:=aR (x :: u) 1;have HC:=hid (xI g x w HG.o);have HD:Hid ((x :: u).dropWhile blk=if blk x then u.dropWhile blk else x :: u):=by show _=_;rw [List.dropWhile_cons]
  have HL:Hid (u.length<=100000/\u.length < (x :: u).length):=by simp only [List.length_cons] at hl ⊢;exact ⟨by omega,by omega⟩
  generalize blk x=b at HC HD;generalize (x :: u).length=n at z g0 g1 zd HL;generalize hX:ba (x :: u)=X at z i0 zd;clear hl
  cases b with
  | false =>
   go_wp2_with (go_at_call 179;refine HC.o.mono ?_;rintro e1 w1 ⟨rfl,rfl⟩)
   go_ret;refine ⟨?_,rfl⟩;rw [HE.o,HD.o,if_neg (by decide),hX];rfl
  | true =>
   go_wp2_with (go_at_call 179;refine HC.o.mono ?_;rintro e1 w1 ⟨rfl,rfl⟩)
   go_roundw
   case rel=>exact ⟨u,rfl,HL.o.1,by show _=_;rw [HE.o,HD.o];rfl,trivial⟩
   show (ba u).size < X.size
   rw [aD,z];exact HL.o.2
def Dw (u:By) (x:UInt8):(ba (u++[x])).extract 0 u.length=ba u:=by rw [gU];simp
def kQ (u:By) (x:UInt8):aN (u++[x])=if blk x then aN u else u++[x]:=by
 unfold aN;rw [List.reverse_append,List.reverse_singleton,List.singleton_append,List.dropWhile_cons];split
 . rfl
 simp
def Qd (s:By) (g:Nat) (w:World) (hs:s.length<=100000) (hg:qQ w g) :
 qC 143 #[.string (ba s),.pointer (some ⟨g,0,none⟩)] w fun e w'=>e=.returned (.string (ba (aN s)))/\w=w':=by
 have HG:=hid hg;clear hg;go_enter Tryz.func143,Tryz.ntmps143
 go_wp2;go_loopw [0] (fun s0 wr=>∃t:By,s0=.string (ba t)/\t.length<=100000/\Hid (aN s=aN t)/\w=wr)
  (fun s0 _=>match s0 with | .string x=>x.size | _=>0)
 case atStart=>exact ⟨s,rfl,hs,rfl,rfl⟩
 obtain ⟨t,rfl,hl,HE,rfl⟩:=hrel;have z:=aD t;rcases List.eq_nil_or_concat t with rfl | ⟨u,x,rfl⟩
 . have g0:¬((0:Int) < (([]:By).length:Int)):=by simp
   go_wp2;go_ret;exact ⟨by rw [HE.o];rfl,rfl⟩
 rw [List.concat_eq_append] at *;have e0:(u++[x]).length=u.length+1:=by simp
 rw [e0] at z hl;have i0:∀W,(Instr.index 9 (.string (ba (u++[x]))) (.int .i64 (u.length:Int))).run Tryz.prog W=.ok (.int .u8 (b8 x)) W:=fun W=>by
  have:=aX (u++[x]) u.length (by simp) W;rw [this];simp [at8]
 have zd:(ba (u++[x])).extract 0 u.length=ba u:=Dw u x;have HC:=hid (xI g x w HG.o);have HD:=hid (kQ u x);have zu:=aD u;generalize blk x=b at HC HD;generalize hX:ba (u++[x])=X at z i0 zd;generalize hn:u.length=n at z hl zd zu i0;have g0:(0:Int) < ((n+1:Nat):Int):=by omega
 have g1:((n+1:Nat):Int) - 1=(n:Int):=by omega
 have HN:=hid hl
 cases b with
 | false =>
  go_wp2_with (go_at_call 179;refine HC.o.mono ?_;rintro e1 w1 ⟨rfl,rfl⟩)
  go_ret;refine ⟨?_,rfl⟩;rw [HE.o,HD.o,if_neg (by decide),hX];rfl
 | true =>
  go_wp2_with (go_at_call 179;refine HC.o.mono ?_;rintro e1 w1 ⟨rfl,rfl⟩)
  go_roundw
  case rel=>exact ⟨u,rfl,by have:=HN.o;omega,by show _=_;rw [HE.o,HD.o];rfl,trivial⟩
  show (ba u).size < X.size
  rw [zu,z];omega
def ku:(Tryz.prog.info? 203).map (·.size)=some gE.size:=by rw [uV];kernel_rfl
def cq:∀w,(zeroValue 203).run Tryz.prog w=.ok (.agg (Array.replicate 256 (.bool false))) w:=fun w=>by kernel_rfl
def Oj (w:World):qC 141 #[.string ⟨#[32,9]⟩] w fun e w'=>e=.returned (.tuple #[.agg gE,.bool true])/\w'=w.alloc (.cells gE 203):=by
 have:=Tryz.strings_makeASCIISet cq ⟨#[32,9]⟩ w (by decide) (fun j b h=>by
  have h2:([32,9]:By)[j]? = some b:=h;match j,h2 with
  | 0,h2=>simp at h2;subst h2;decide
  | 1,h2=>simp at h2;subst h2;decide
  | j+2,h2=>simp at h2)
 unfold gE;exact this
def Ry:Tryz.zeroCells203.size=256:=by kernel_rfl
def Uh (s:By) (w:World) (hs:s.length<=100000) :
 qC 91 #[.string (ba s),.string ⟨#[32,9]⟩] w fun e w'=>e=.returned (.string (ba (trimB s)))/\qW w w':=by
 have zs:=bH s;by_cases h0:s=[]
 .
  subst h0;go_enter Tryz.func91,Tryz.ntmps91
  go_wp2;go_ret;exact ⟨rfl,Below.refl _ _⟩
 have hsne:¬((ba s).toList=[]):=by rw [zs];exact h0
 have J9:=hid hsne;clear hsne;have HS:=hid hs;have HI:=hid ku;have HZ:=hid Ry;obtain ⟨W1,p3⟩:=qY (w.alloc (.cells gE 203));have B1:qW w W1:=p3▸qB.alloc qN _;have HM:Hid (qC 141 #[.string ⟨#[32,9]⟩] w fun e w'=>e=.returned (.tuple #[.agg gE,.bool true])/\W1=w'):=(Oj w).mono fun _ _ ⟨h1,h2⟩=>⟨h1,by rw [h2,p3]⟩
 have HB:=hid B1;clear p3 B1 hs h0 zs;generalize hT:gE=cs at HM HI;go_enter Tryz.func91,Tryz.ntmps91
 go_wp2_with (first
  | (go_at_call 141;refine HM.o.mono ?_;rintro e1 w1 ⟨rfl,rfl⟩)
  | (refine wpList_store_row rfl 203 (.tmp 5) (.tmp 32) rfl W1.heap.size cs rfl rfl 203 Tryz.zeroCells203 (Has.fresh W1 203 Tryz.zeroCells203) HI.o (by rw [HZ.o,<-hT,uV]) (by rw [<-hT];exact Ky) ?_
     generalize hG:World.setRow _ _ _=W2;have HA:Hid (qQ W2 W1.heap.size/\qW w W2):=⟨qQ.of (by rw [<-hG,hT];exact (Has.fresh W1 203 Tryz.zeroCells203).row),by rw [<-hG];exact ((HB.o.alloc HB.o.size _).rowG HB.o.size _)⟩;clear hG)
  | (go_at_call 143;refine (Qd s _ _ HS.o HA.o.1).mono ?_;rintro e2 w2 ⟨rfl,rfl⟩)
  | (go_at_call 142;refine (Sm (aN s) _ _ (Nat.le_trans (zI s) HS.o) HA.o.1).mono ?_;rintro e3 w3 ⟨rfl,rfl⟩))
 . exact absurd (List.isEmpty_iff.1 ‹(ba s).toList.isEmpty=true›) J9.o
 go_ret;exact ⟨rfl,HA.o.2⟩
def gt (s p q:By) (m:Bool) (h:Hid (cutN s=(p,q,m))) (w:World) (hG:Gd w) (hs:s.length<=100000) :
 qC 90 #[.string (ba s),.string ⟨#[10]⟩] w fun e w'=>e=.returned (.tuple #[.string (ba p),.string (ba q),.bool m])/\∃n,w'=w.drewN n:=by
 refine (Tryz.strings_Cut_shaped (ba s) ⟨#[10]⟩ w hG.1 (by rw [aD];omega)).mono fun e w' ⟨h1,h2⟩=>⟨?_,h2⟩
 have e2:Lib.cut (tl (ba s)) [10]=(p,q,m):=(bu _).trans h.o;rw [h1];show Ending.returned (.tuple #[.string (ba (Lib.cut (tl (ba s)) [10]).1),.string (ba (Lib.cut (tl (ba s)) [10]).2.1),.bool (Lib.cut (tl (ba s)) [10]).2.2])=_
 rw [e2]
open Go.RowKit Go.Maps
def oU (fs:Fl):List Value:=fs.flatMap fun f=>[.string (ba f.1),.string (ba f.2)]
def Gb (f:By × By) (fs:Fl):oU (f :: fs)=[.string (ba f.1),.string (ba f.2)]++oU fs:=by simp [oU]
def zM (fs:Fl) (k:Nat) (h:k < fs.length):(oU fs)[k*2]? = some (.string (ba fs[k].1))/\(oU fs)[k*2+1]? = some (.string (ba fs[k].2)):=by
 induction fs generalizing k with
 | nil=>simp at h
 | cons r rs ih =>
  rw [Gb]
  cases k with
  | zero=>simp
  | succ k =>
   simp only [List.length_cons] at h;have:=ih k (by omega);rw [show (k+1)*2=k*2+2 by omega,show k*2+2+1=(k*2+1)+2 by omega];simpa using this
def bO (w:World) (v:Value) (fs:Fl):Prop:=∃(A:Option Addr) (c bb off:Nat),v=.slice A fs.length c/\(0 < fs.length->A=some ⟨bb,off,none⟩/\bb < w.heap.size) /\
 ∀k (hk:k < fs.length),w.cell? ⟨bb,off+k*2,none⟩=some (.string (ba fs[k].1))/\w.cell? ⟨bb,off+k*2+1,none⟩=some (.string (ba fs[k].2))
def bO.stays {w w':World} {v:Value} {fs:Fl} (h:bO w v fs) (hb:qW w w'):bO w' v fs:=by
 obtain ⟨A,c,bb,off,h1,h2,h3⟩:=h;refine ⟨A,c,bb,off,h1,fun h0=>⟨(h2 h0).1,Nat.lt_of_lt_of_le (h2 h0).2 hb.size⟩,fun k hk=>?_⟩;have hg:=(h2 (by omega)).2;exact ⟨(hb.cell (p:=⟨bb,off+k*2,none⟩) hg).trans (h3 k hk).1,(hb.cell (p:=⟨bb,off+k*2+1,none⟩) hg).trans (h3 k hk).2⟩
def bO.form {w:World} {v:Value} {fs:Fl} (h:bO w v fs):∃A c,v=.slice A fs.length c:=by
 obtain ⟨A,c,_,_,h1,_⟩:=h;exact ⟨A,c,h1⟩
def bO.row {w:World} {v:Value} {fs:Fl} (h:bO w v fs) (h0:0 < fs.length):∃g o c,v=.slice (some ⟨g,o,none⟩) fs.length c/\g < w.heap.size/\∀k (hk:k < fs.length),w.cell? ⟨g,o+k*2,none⟩=some (.string (ba fs[k].1))/\w.cell? ⟨g,o+k*2+1,none⟩=some (.string (ba fs[k].2)):=by
 obtain ⟨A,c,bb,off,h1,h2,h3⟩:=h;exact ⟨bb,off,c,by rw [h1,(h2 h0).1],(h2 h0).2,h3⟩
def bO.of_own {w:World} {v:Value} {fs:Fl} (h:w.ownsRow 0 91 2 v fs.length (oU fs)):bO w v fs:=by
 obtain ⟨A,c,hv⟩:=aO h;rcases Nat.eq_zero_or_pos fs.length with h0 | h0
 . exact ⟨A,c,0,0,hv,fun k=>absurd k (by omega),fun k hk=>absurd hk (by omega)⟩
 obtain ⟨g,c,h1,_,h3,_,h5⟩:=sX h h0;refine ⟨_,c,g,0,h1,fun _=>⟨rfl,h3⟩,fun k hk=>?_⟩;rw [Nat.zero_add];exact ⟨h5 _ _ (zM fs k hk).1,h5 _ _ (zM fs k hk).2⟩
open Classical in
noncomputable def plF:Fl->Nat->Value->Option Value
 | [],_,_=>none
 | f :: fs,i,y=>if y=.string (ba f.1) then some (.int .i64 (i:Int)) else plF fs (i+1) y
open Classical in
def Dm (fs:Fl) (f:By × By):∀i y,plF (fs++[f]) i y=match plF fs i y with | some v=>some v | none=>if y=.string (ba f.1) then some (.int .i64 ((i+fs.length:Nat):Int)) else none:=by
 induction fs with
 | nil=>intro i y;simp [plF]
 | cons r rs ih =>
  intro i y;rw [List.cons_append,plF,plF];by_cases h:y=.string (ba r.1)
  . rw [if_pos h,if_pos h]
  rw [if_neg h,if_neg h,ih,List.length_cons,show i+1+rs.length=i+(rs.length+1) by omega]
def pF {a b:By}:Value.string (ba a)=.string (ba b)↔a=b:=⟨fun h=>Sd (by simpa using h),fun h=>by rw [h]⟩
def Ya {fs:Fl} {name:By} (h:bQ fs name=none):∀i,plF fs i (.string (ba name))=none:=by
 induction fs with
 | nil=>intro i;rfl
 | cons r rs ih =>
  intro i;unfold bQ at h;rw [List.find?_cons] at h
  cases hr:r.1 == name with
  | true=>rw [hr] at h;cases h
  | false =>
   rw [hr] at h;unfold plF;rw [if_neg (fun e=>by rw [pF] at e;simp [e] at hr)];exact ih h (i+1)
def lH {fs:Fl} {name t:By} (h:bQ fs name=some t):∀i,∃k,∃hk:k < fs.length,plF fs i (.string (ba name))=some (.int .i64 ((i+k:Nat):Int))/\fs[k].2=t:=by
 induction fs with
 | nil=>intro i;cases h
 | cons r rs ih =>
  intro i;unfold bQ at h;rw [List.find?_cons] at h
  cases hr:r.1 == name with
  | true =>
   rw [hr] at h;simp only [Option.some.injEq] at h;refine ⟨0,by simp,?_,h⟩;unfold plF;rw [if_pos (by rw [pF];exact (beq_iff_eq.1 hr).symm)];simp
  | false =>
   rw [hr] at h;obtain ⟨k,hk,h1,h2⟩:=ih h (i+1);refine ⟨k+1,by simp;omega,?_,by simpa using h2⟩;unfold plF;rw [if_neg (fun e=>by rw [pF] at e;simp [e] at hr),h1,show i+1+k=i+(k+1) by omega]
def kC (w:World):(zeroValue 3).run Tryz.prog w=.ok (.int .i64 0) w:=by kernel_rfl
open Classical in
def Xj {fs:Fl} {k:Nat} (hk:k < fs.length) {v:Value} (h:plF (fs.take k) 0 (.string (ba fs[k].1))=some v):plF (fs.take (k+1)) 0=plF (fs.take k) 0:=by
 funext y
 rw [List.take_succ_eq_append_getElem hk,Dm]
 cases hy:plF (fs.take k) 0 y with
 | some u=>rfl
 | none =>
  simp only;rw [if_neg];intro e;rw [e,h] at hy
  cases hy
open Classical in
def Zm {fs:Fl} {k:Nat} (hk:k < fs.length) (h:plF (fs.take k) 0 (.string (ba fs[k].1))=none):(fun y=>if y=Value.string (ba fs[k].1) then some (Value.int .i64 (k:Int)) else plF (fs.take k) 0 y)=plF (fs.take (k+1)) 0:=by
 funext y
 rw [List.take_succ_eq_append_getElem hk,Dm];by_cases e:y=.string (ba fs[k].1)
 . rw [if_pos e,e,h]
   simp only [if_true];rw [List.length_take,Nat.min_eq_left (by omega),Nat.zero_add]
 rw [if_neg e]
 cases plF (fs.take k) 0 y with
 | some u=>rfl
 | none=>simp only;rw [if_neg e]
def Ls (v:Value) (fs:Fl) (w:World) (hf:bO w v fs) (hn:fs.length<=1000) (hl:∀k (hk:k < fs.length),fs[k].1.length<=100000) :
 qC 41 #[v] w fun e w'=>(∃b c,e=.returned (.map (some b))/\w.heap.size<=b/\MapZ w' (.int .i64 0) b c (plF fs 0))/\qW w w':=by
 have rl:=@run_makeMap Tryz.prog;have HF:=hid hf;have HL:=hid hl;have HN:=hid hn;obtain ⟨n,mo⟩:=qX (fs.length);obtain ⟨A,cp,hv⟩:=hf.form;rw [mo.o] at hv hn;subst hv;obtain ⟨W1,p3⟩:=qY (w.alloc (.map #[] 0));have VP:Hid (MapZ W1 (.int .i64 0) w.heap.size 0 (plF (fs.take 0) 0)):=p3▸MapZ.made w _;have ub:Hid (qW w W1):=p3▸qB.alloc qN _;have HW:Hid (w.heap.size < W1.heap.size):=by show _ < _;rw [<-p3];simp
 clear hf hl;go_enter Tryz.func41,Tryz.ntmps41
 go_wp2;go_loopw [11] (fun i wr=>∃(k c:Nat),i=.int .i64 (k:Int)/\k<=n/\c<=k/\Hid (MapZ wr (.int .i64 0) w.heap.size c (plF (fs.take k) 0))/\Hid (qW w wr))
  (fun i _=>n - (intOf i).toNat)
 case atStart=>exact ⟨0,0,rfl,by omega,Nat.le_refl _,VP,ub⟩
 obtain ⟨k,c,rfl,hk,hc,HM,HB⟩:=hrel;by_cases d8:k < n
 .
  have j4:k < fs.length:=by rw [mo.o];exact d8
  obtain ⟨g,o0,cp2,vz,hg,d9⟩:=HF.o.row (by omega);rw [mo.o] at vz;simp only [Value.slice.injEq,true_and] at vz;obtain ⟨rfl,rfl⟩:=vz;have c0:=(HB.o.cell (p:=⟨g,o0+k*2,none⟩) hg).trans (d9 k j4).1;have c1:=(HB.o.cell (p:=⟨g,o0+k*2+1,none⟩) hg).trans (d9 k j4).2;have HK:=hid (eE fs[k].1 (by have:=HL.o k j4;unfold maxLen;omega));obtain ⟨Wa,z7⟩:=qY (wr.alloc (.cells #[.string (ba fs[k].1),.string (ba fs[k].2)] 91));have VQ:Hid (qW w Wa):=z7▸HB.o.alloc HB.o.size _;have VR:Hid (MapZ Wa (.int .i64 0) w.heap.size c (plF (fs.take k) 0)):=z7▸HM.o.kept ((Below.refl wr.heap.size wr).alloc qN _ |>.block _ HM.o.inside);have m7:=VR.o.lookOk Tryz.underlying101 (kC _) HK.o;have a0:Wa.cell? ⟨wr.heap.size,0,none⟩=some (.string (ba fs[k].1)):=z7▸(Has.fresh wr 91 _).at_ 0
  cases hp:plF (fs.take k) 0 (.string (ba fs[k].1)) with
  | some u =>
   rw [hp] at m7;simp only [Option.getD_some,Option.isSome_some] at m7;have HS:=hid (Xj j4 hp);generalize fs[k].1=nm at c0 m7 a0 z7;generalize fs[k].2=tx at c1 z7;clear hp d9;go_wp2;exact ⟨⟨k+1,c,by go_num,by omega,by omega,by rw [HS.o];exact VR,VQ⟩,by simp [intOf];omega⟩
  | none =>
   obtain ⟨Wb,p6,CX,hgb⟩:=VR.o.store Tryz.underlying101 (by omega) (v:=.int .i64 (k:Int)) HK.o;rw [hp] at m7;simp only [Option.getD_none,Option.isSome_none] at m7;rw [Zm j4 hp,hp] at CX;have HMb:=hid CX;have HBb:Hid (qW w Wb):=bM hgb VQ.o (fun j hj=>by simp at hj;omega) VQ.o.size;generalize fs[k].1=nm at c0 m7 a0 z7 p6;generalize fs[k].2=tx at c1 z7;clear hp d9 CX hgb;go_wp2;exact ⟨⟨k+1,c+1,by go_num,by omega,by omega,HMb,HBb⟩,by simp [intOf];omega⟩
 have HK:Hid (k=fs.length):=by show _=_;rw [mo.o];omega
 have xm:Hid (MapZ wr (.int .i64 0) w.heap.size c (plF fs 0)):=by have:=HM.o;rw [HK.o,List.take_length] at this;exact this
 go_wp2;go_ret;exact ⟨⟨_,c,rfl,Nat.le_refl _,xm.o⟩,HB.o⟩
open Go.RowKit Go.Maps
def ptrV (g:Nat):Value:=.pointer (some ⟨g,0,none⟩)
def Calm (L D:Nat) (r:Option Nat) (j:Nat) (o:Obj):Prop :=
 (∀cs q,o=Obj.cells cs 106 q->j≠L)/\(∀es c,o=Obj.map es c->j≠D)/\(∀cs q,o≠Obj.cells cs 169 q)/\(∀cs q,o=Obj.cells cs 9 q->some j≠r)
def Fr (L D:Nat) (r:Option Nat) (w W:World):Prop:=w.heap.size<=W.heap.size/\∀(j:Nat) (o:Obj),w.heap[j]? = some o->Calm L D r j o->W.heap[j]? = some o
def Calm.cells {L D:Nat} {r:Option Nat} {j:Nat} {cs:Array Value} {t:TypeId} {q:Nat × Nat} (h1:t≠106) (h2:t≠169) (h3:t≠9):Calm L D r j (Obj.cells cs t q):=by
 refine ⟨fun cs' q' e=>?_,fun es c e=>(nomatch e),fun cs' q' e=>?_,fun cs' q' e=>?_⟩
 . simp only [Obj.cells.injEq] at e;exact absurd e.2.1 h1
 . simp only [Obj.cells.injEq] at e;exact h2 e.2.1
 simp only [Obj.cells.injEq] at e;exact absurd e.2.1 h3
def Calm.strs {L D:Nat} {r:Option Nat} {j:Nat} {cs:Array Value} {q:Nat × Nat} (h:some j≠r):Calm L D r j (Obj.cells cs 9 q):=by
 refine ⟨fun cs' q' e=>?_,fun es c e=>(nomatch e),fun cs' q' e=>?_,fun _ _ _=>h⟩
 . simp only [Obj.cells.injEq] at e;exact absurd e.2.1 (by decide)
 simp only [Obj.cells.injEq] at e;exact absurd e.2.1 (by decide)
def Calm.map {L D:Nat} {r:Option Nat} {j:Nat} {es} {c} (h:j≠D):Calm L D r j (Obj.map es c):=⟨fun _ _ e=>(nomatch e),fun _ _ _=>h,fun _ _ e=>(nomatch e),fun _ _ e=>(nomatch e)⟩
def Fr.of_below {L D:Nat} {r:Option Nat} {w W:World} (h:qW w W):Fr L D r w W:=⟨h.size,fun j _ ho _=>(h.block j (Array.getElem?_eq_some_iff.1 ho).1).trans ho⟩
def Fr.refl (L D:Nat) (r:Option Nat) (w:World):Fr L D r w w:=Fr.of_below qB
def Fr.trans {L D:Nat} {r r':Option Nat} {a b c:World} (h:Fr L D r a b) (k:Fr L D r' b c) (hr:∀j,j < a.heap.size->some j=r'->some j=r):Fr L D r a c:=by
 refine ⟨Nat.le_trans h.1 k.1,fun j o ho hc=>k.2 j o (h.2 j o ho hc) ⟨hc.1,hc.2.1,hc.2.2.1,fun cs q e h2=>hc.2.2.2 cs q e (hr j (Array.getElem?_eq_some_iff.1 ho).1 h2)⟩⟩
def Fr.thenG {L D:Nat} {r:Option Nat} {a b c:World} (h:Fr L D r a b) (k:qW b c):Fr L D r a c:=h.trans (Fr.of_below (r:=r) k) (fun _ _ h=>h)
def Fr.tr {L D:Nat} {r:Option Nat} {a b c:World} (h:Fr L D r a b) (k:Fr L D r b c):Fr L D r a c:=h.trans k (fun _ _ h=>h)
def Fr.has {L D:Nat} {r:Option Nat} {w W:World} {g:Nat} {t:TypeId} {cs:Array Value} (h:Fr L D r w W) (k:Has w g t cs) (h1:t≠106) (h2:t≠169) (h3:t≠9):Has W g t cs:=h.2 g _ k (Calm.cells h1 h2 h3)
def Fr.str {L D:Nat} {r:Option Nat} {w W:World} {g:Nat} {cs:Array Value} (h:Fr L D r w W) (k:Has w g 9 cs) (hr:some g≠r):Has W g 9 cs:=h.2 g _ k (Calm.strs hr)
def Fr.gx {L D:Nat} {r:Option Nat} {w W:World} (h:Fr L D r w W):Gx w W:=by
 refine ⟨h.1,fun j cs t q ho ht=>h.2 j _ ho ?_⟩;rcases ht with rfl | rfl | rfl | rfl<;>exact Calm.cells (by decide) (by decide) (by decide)
def Fr.own {L D:Nat} {r:Option Nat} {w W:World} {B:Nat} {e:TypeId} {s n:Nat} {v:Value} {xs:List Value} (h:Fr L D r w W) (k:w.ownsRow B e s v n xs) (h1:e≠106) (h2:e≠169) (h3:e≠9):W.ownsRow B e s v n xs:=by
 refine ⟨k.1,?_⟩;rcases k.2 with h1 | ⟨g,c,cur,rfl,hB,h4,h5⟩
 . exact .inl h1
 exact .inr ⟨g,c,cur,rfl,hB,h.2 g _ h4 (Calm.cells h1 h2 h3),h5⟩
def jE.fr {L D:Nat} {r:Option Nat} {B:Nat} {w w':World} {v:Value} {hs:H} (h:jE B w v hs) (hb:Fr L D r w w'):jE B w' v hs:=by
 obtain ⟨ps,ho,hl,hf⟩:=h;exact ⟨ps,hb.own ho (by decide) (by decide) (by decide),hl,fun k p x hp hx=>⟨(hf k p x hp hx).1,(hf k p x hp hx).2.gx hb.gx⟩⟩
def PatIs.fr {L D:Nat} {r:Option Nat} {w w':World} {g:Nat} {s:By} {p:Pt} (h:PatIs w g s p) (hb:Fr L D r w w'):PatIs w' g s p:=by
 obtain ⟨v,h1,h2,h3⟩:=h;exact ⟨v,hb.has h1 (by decide) (by decide) (by decide),h2.fr hb,h3⟩
def eA (w:World) (gs:List Nat) (ps:List By):Prop:=gs.length=ps.length/\∀(k:Nat) g s,gs[k]? = some g->ps[k]? = some s->∃p,PatIs w g s p/\parseL s=some p/\perr s=0
def eA.fr {L D:Nat} {r:Option Nat} {w w':World} {gs:List Nat} {ps:List By} (h:eA w gs ps) (hb:Fr L D r w w'):eA w' gs ps :=
 ⟨h.1,fun k g s h1 h2=>by obtain ⟨p,a,b⟩:=h.2 k g s h1 h2;exact ⟨p,a.fr hb,b⟩⟩
def eA.append {w:World} {gs hs:List Nat} {ps qs:List By} (h:eA w gs ps) (k:eA w hs qs):eA w (gs++hs) (ps++qs):=by
 refine ⟨by simp [h.1,k.1],fun j g s h1 h2=>?_⟩;by_cases hj:j < gs.length
 . rw [List.getElem?_append_left hj] at h1
   rw [List.getElem?_append_left (by rw [<-h.1];exact hj)] at h2;exact h.2 j g s h1 h2
 rw [List.getElem?_append_right (by omega)] at h1;rw [List.getElem?_append_right (by rw [<-h.1];omega),<-h.1] at h2;exact k.2 _ g s h1 h2
def eA.nil (w:World):eA w [] []:=⟨rfl,fun k g s h=>by simp at h⟩
def eA.one {w:World} {g:Nat} {s:By} {p:Pt} (h:PatIs w g s p) (h1:parseL s=some p) (h2:perr s=0):eA w [g] [s]:=by
 refine ⟨rfl,fun k g' s' a b=>?_⟩;match k,a,b with
 | 0,a,b=>simp at a b;subst a;subst b;exact ⟨p,h,h1,h2⟩
 | k+1,a,b=>simp at a
def eA.part {w:World} {gs:List Nat} {ps:List By} (h:eA w gs ps) (a n:Nat):eA w ((gs.drop a).take n) ((ps.drop a).take n):=by
 refine ⟨by simp [h.1],fun k g s h1 h2=>?_⟩;rw [List.getElem?_take,List.getElem?_drop] at h1 h2;split at h1
 . rename_i hk;rw [if_pos hk] at h2;exact h.2 _ g s h1 h2
 cases h1
def Pats (B:Nat) (w:World) (v:Value) (ps:List By):Prop:=∃gs:List Nat,w.ownsRow B 169 1 v ps.length (gs.map ptrV)/\eA w gs ps
def Pats.nil (B:Nat) (w:World):Pats B w (.slice none 0 0) []:=⟨[],World.ownsRow_nil _ _ _ _,eA.nil w⟩
def Pats.form {B:Nat} {w:World} {v:Value} {ps:List By} (h:Pats B w v ps):∃A c,v=.slice A ps.length c:=by obtain ⟨_,ho,_⟩:=h;exact aO ho
def Pats.below {B:Nat} {w w':World} {v:Value} {ps:List By} (h:Pats B w v ps) (hb:qW w w'):Pats B w' v ps:=by
 obtain ⟨gs,ho,hp⟩:=h;exact ⟨gs,own_below ho hb,hp.fr (Fr.of_below (L:=0) (D:=0) (r:=none) hb)⟩
def Uv:(Tryz.prog.info? 169).map (fun i=>(i.zero,i.size,i.bytes))=some (some (.pointer none),1,8):=by kernel_rfl
def pQ (w:World) (x:Value) (qs:List By):Prop:=∃(gs:List Nat) (A:Option Addr) (c:Nat),x=.slice A qs.length c/\eA w gs qs/\(A=none->qs=[]/\c=0)/\∀a,A=some a->∀(j:Nat) u,(gs.map ptrV)[j]? = some u->w.cell? (a.add j)=some u
def Gl {B:Nat} {w:World} {v x:Value} {ps qs:List By} (h:Pats B w v ps) (hx:pQ w x qs) (hn:ps.length+qs.length<=64) (hB:B<=w.heap.size) (ty:TypeId) :
 ∃v' w',(Builtin.append_ #[104,104] ty #[v,x]).run Tryz.prog w=.ok v' w'/\Pats B w' v' (ps++qs)/\(∀L D r,Fr L D r w w')/\(∀(a:World),Below B a w->Below B a w')/\(∀g t cs,Has w g t cs->t≠169->Has w' g t cs):=by
 obtain ⟨gs,ho,hp⟩:=h;obtain ⟨hs,A,c,rfl,hq,VS,hA⟩:=hx;obtain ⟨i0,hi,o7,g8,j5⟩:=info_parts Uv
 cases A with
 | none =>
  obtain ⟨UR,ue⟩:=VS rfl;subst UR;subst ue;have hr:=run_append_owned_none (P:=Tryz.prog) w B 104 ty 169 i0 1 Tryz.underlying104 hi v ps.length _ ho;exact ⟨v,w,hr,by rw [List.append_nil];exact ⟨gs,ho,hp⟩,fun _ _ _=>Fr.refl _ _ _ _,fun _ h=>h,fun _ _ _ h _=>h⟩
 | some a =>
  obtain ⟨v',w',hr,ny,hg,_,_⟩:=run_append_own_at (P:=Tryz.prog) w B 104 ty 169 i0 (.pointer none) 1 8 Tryz.underlying104 hi o7 g8 j5 rfl (by omega) v ps.length _ ho a qs.length c (hs.map ptrV) (by simp [hq.1]) (hA a rfl) (fun y hy=>by
   obtain ⟨g,_,rfl⟩:=List.mem_map.1 hy;rfl) (by unfold maxLen;omega) (by omega) hB
  have hty:=fF ho;have hF:∀L D r,Fr L D r w w':=fun L D r=>⟨hg.size,fun j o hj hc=>(hg.block j (Array.getElem?_eq_some_iff.1 hj).1 fun e=>by
   obtain ⟨cs,q,h2⟩:=hty j e.symm;exact hc.2.2.1 cs q (Option.some.inj (hj.symm.trans h2))).trans hj⟩
  refine ⟨v',w',hr,⟨gs++hs,by rw [List.map_append,List.length_append];exact ny,(hp.append hq).fr (hF 0 0 none)⟩,hF,fun a ha=>bM hg ha (fun k hk=>(aS ho k hk).1) hB,fun g t cs hh ht=>?_⟩;refine (hg.block g hh.inside fun e=>?_).trans hh;obtain ⟨cs',q,h2⟩:=hty g e.symm;have e2:=Option.some.inj (hh.symm.trans h2);simp only [Obj.cells.injEq] at e2;exact ht e2.2.1
def Out (g:Except Int (List By)) (e:Ending) (X:Prop) (Y:List By->Prop):Prop :=
 match g with
 | .error c=>e=.returned (.int .i64 c)/\c≠0/\X
 | .ok qs=>e=.returned (.int .i64 0)/\Y qs
def Out.err {g:Except Int (List By)} {c:Int} (h:g=.error c) {e:Ending} {X:Prop} {Y:List By->Prop} (h1:e=.returned (.int .i64 c)) (h2:c≠0) (h3:X):Out g e X Y:=by subst h;exact ⟨h1,h2,h3⟩
def Out.ok {g:Except Int (List By)} {qs:List By} (h:g=.ok qs) {e:Ending} {X:Prop} {Y:List By->Prop} (h1:e=.returned (.int .i64 0)) (h2:Y qs):Out g e X Y:=by subst h;exact ⟨h1,h2⟩
def Out.of_err {c:Int} {e:Ending} {X:Prop} {Y:List By->Prop} (h:Out (.error c) e X Y):e=.returned (.int .i64 c)/\c≠0/\X:=h
def Out.of_ok {qs:List By} {e:Ending} {X:Prop} {Y:List By->Prop} (h:Out (.ok qs) e X Y):e=.returned (.int .i64 0)/\Y qs:=h
def eH (B:Nat) (w:World) (L:Nat) (ps:List By):Prop:=∃v,Has w L 106 #[v]/\Pats B w v ps
def eH.below {B L:Nat} {w w':World} {ps:List By} (h:eH B w L ps) (hb:qW w w'):eH B w' L ps:=by
 obtain ⟨v,h1,h2⟩:=h;exact ⟨v,h1.stays hb,h2.below hb⟩
def Fr.setL {L D:Nat} {r:Option Nat} {w:World} {cs:Array Value} (h:Has w L 106 cs) (v:Value):Fr L D r w (w.setCell ⟨L,0,none⟩ v):=by
 refine ⟨by simp,fun j o ho hc=>?_⟩;by_cases hj:j=L
 . subst hj
   exact absurd rfl (hc.1 _ _ (Option.some.inj (ho.symm.trans h)))
 exact (Below.heap_setCell w ⟨L,0,none⟩ v j hj).trans ho
def Pats.setL {B L:Nat} {w:World} {cs:Array Value} {v:Value} {ps:List By} (h:Pats B w v ps) (hL:Has w L 106 cs) (u:Value):Pats B (w.setCell ⟨L,0,none⟩ u) v ps:=by
 obtain ⟨gs,ho,hp⟩:=h;refine ⟨gs,kL ho fun k hk=>?_,hp.fr (Fr.setL (D:=0) (r:=none) hL u)⟩;have:k≠L:=by
  rintro rfl;obtain ⟨cs',q,h2⟩:=fF ho k hk;have e2:=Option.some.inj (hL.symm.trans h2);simp only [Obj.cells.injEq] at e2;exact absurd e2.2.1 (by decide)
 exact Below.heap_setCell w ⟨L,0,none⟩ u k this
def Hl (B L:Nat) (ps qs:List By) (x:Value) (w:World) (hL:eH B w L ps) (hx:pQ w x qs) (h1:ps.length<=64) (h2:qs.length<=64) (hB:B<=L) :
 qC 44 #[ptrV L,x] w fun e w'=>Out (gZ ps qs) e (w=w') (fun rs=>eH B w' L rs/\(∀D r,Fr L D r w w')/\(∀(a:World),Below B a w->Below B a w')):=by
 obtain ⟨v,hh,hp⟩:=hL;have uc:B<=w.heap.size:=by have:=hh.inside;omega
 have c0:=hh.at_ 0;obtain ⟨A,cp,rfl⟩:=hp.form;obtain ⟨X,cx,vh⟩:∃X cx,x=.slice X qs.length cx:=by obtain ⟨_,A,c,h,_⟩:=hx;exact ⟨A,c,h⟩
 have h1':=h1;have h2':=h2;by_cases D7:ps.length+qs.length<=64
 .
  have HE:Hid (gZ ps qs=.ok (ps++qs)):=by show _=_;unfold gZ;rw [if_pos D7]
  obtain ⟨v',w1,hr,zm,hF,hBel,hH⟩:=Gl hp hx D7 uc 104;have CZ:=hid (hH L 106 _ hh (by decide));have d0:=CZ.o.at_ 0;have f0:=CZ.o.free 0;have HP:=hid zm;have HF:=hid hF;have HBel:=hid hBel;have HR:=hid hr;obtain ⟨A',cp',IV⟩:=zm.form;rw [List.length_append] at IV;subst IV;subst vh;have g1:¬((64:Int) < (ps.length:Int)+(qs.length:Int)):=by omega
  generalize hn:ps.length=n at *;generalize hm:qs.length=m at *;clear hp hx zm hF hBel hH hr hh;unfold ptrV;go_enter Tryz.func44,Tryz.ntmps44
  go_wp2_with (at_builtin;refine wpList_append_run rfl (.tmp 18) (.tmp 19) 104 104 rfl ⟨_,w1,HR.o,?_⟩)
  go_ret;exact Out.ok HE.o rfl ⟨⟨_,CZ.o.put 0 _,HP.o.setL CZ.o _⟩,fun D r=>(HF.o L D r).tr (Fr.setL CZ.o _),fun a ha=>(HBel.o a ha).setCell hB _⟩
 have HE:Hid (gZ ps qs=.error 3):=by show _=_;unfold gZ;rw [if_neg D7]
 subst vh;have g1:(64:Int) < (ps.length:Int)+(qs.length:Int):=by omega
 generalize hn:ps.length=n at *;generalize hm:qs.length=m at *;clear hp hx hh;unfold ptrV;go_enter Tryz.func44,Tryz.ntmps44
 go_wp2;go_ret;exact Out.err HE.o rfl (by decide) rfl
end Go.Proofs.YtahkcemdbfjilaaGreatDoor.Glob
