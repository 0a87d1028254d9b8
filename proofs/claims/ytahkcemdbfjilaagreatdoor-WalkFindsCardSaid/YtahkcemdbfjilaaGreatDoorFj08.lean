/- Texts. Conditions: as said. -/
import Derived.Test.YtahkcemdbfjilaaGreatDoorFj00
import Derived.Test.YtahkcemdbfjilaaGreatDoorFj07
import Derived.Great.FillDense
import Derived.RangeFuncNested
import Derived.RangeFuncBound
import Derived.RangeFuncCalls
import Derived.RangeFuncLeaves
import Derived.Shelf.Abstract
import Derived.Shelf.RegionOpen
import Derived.OwnWalkIn
import Derived.TacticsInMore
import Derived.LoopNIn
import Derived.LoopIn
import Derived.Deep.RegionHeld
set_option linter.all false
set_option maxRecDepth 100000
set_option maxHeartbeats 32000000
namespace Go.Proofs.YtahkcemdbfjilaaGreatDoor
open Go.RowKit Go.Maps
def Xl:(Tryz.prog.info? 58).map (·.size)=some 27:=by kernel_rfl
def recC (p:By) (k:Int) (sz tm:Int) (bs:Int) (bv:Value) (tg:By):Array Value:=#[kS p,.int .i64 k,.bool false,.int .i64 sz,.int .i64 tm,.int .i64 0,.int .u32 0,.int .u32 0,.int .u32 0,.int .u32 0,.int .u32 0,.int .u32 0,.int .u32 0,.int .u32 0,.int .u32 0,.int .u32 0,.int .u32 0,.int .u32 0,.int .u32 0,.int .u32 0,.int .u32 0,.int .u32 0,.int .i64 bs,bv,kS tg,.int .i64 0,.int .i64 0]
def gI {w:World} {g:Nat} {cs:Array Value} (hg:Has w g 58 cs) (hs:cs.size=27):(loadVar 58 ⟨g,0,none⟩).run Tryz.prog w=.ok (.agg cs) w :=
 run_loadVar_row (P:=Tryz.prog) w g 58 58 _ (0,0) _ hg Tryz.underlying58 rfl (by rw [hs];exact Xl)
def Gk (n:Int):sizeI n<=1000000:=by
 unfold sizeI;split
 . omega
 rename_i h
 have:=fJ n.toNat;omega
def qF (n:Nd):Int:=if n.kind=1 then (n.data.length:Int) else 0
def xZ (n:Nd):Int:=if n.kind=1 then (sizeI (n.data.length:Int):Int) else 0
def hasN (n:Nd):List (List UInt8):=if n.kind=1 then hashes n.data else []
def recN (p:By) (n:Nd) (bv:Value):Array Value:=recC p n.kind (qF n) n.time (xZ n) bv n.target
def Na (p:By) (n:Nd) (w:World) (hT:Sha.Tab w) (hd:n.kind=1->n.data.length<=4096) :
 qC 54 #[kS p,nodeV n] w fun e w'=>∃bv,e=.returned (.agg (recN p n bv))/\Dgs w.heap.size w' bv (hasN n)/\qW w w':=by
 obtain ⟨k,d,x,t⟩:=n;show qC 54 #[kS p,.agg #[.int .i64 k,kS d,kS x,.int .i64 t]] w _
 obtain ⟨w1,r6⟩:=qY (w.alloc (.cells #[.int .i64 k,kS d,kS x,.int .i64 t] 71));have b1:qW w w1:=r6▸qB.alloc qN _;have s1:w1.heap.size=w.heap.size+1:=by rw [<-r6];simp
 have X1:Has w1 w.heap.size 71 #[.int .i64 k,kS d,kS x,.int .i64 t]:=by rw [<-r6];exact Has.fresh _ _ _
 obtain ⟨w2,x9⟩:=qY (w1.alloc (.cells qZ 58));have b2:qW w w2:=x9▸b1.alloc b1.size _;have s2:w2.heap.size=w.heap.size+2:=by rw [<-x9];simp [s1]
 have Y2:Has w2 (w.heap.size+1) 58 qZ:=by rw [<-x9,<-s1];exact Has.fresh _ _ _
 have X2:Has w2 w.heap.size 71 #[.int .i64 k,kS d,kS x,.int .i64 t]:=by rw [<-x9];exact X1.more _
 obtain ⟨w3,rh⟩:=qY (w2.alloc (.cells qZ 58));have b3:qW w w3:=rh▸b2.alloc b2.size _;have s3:w3.heap.size=w.heap.size+3:=by rw [<-rh];simp [s2]
 have Z3:Hid (Has w3 (w.heap.size+2) 58 qZ):=by rw [<-rh,<-s2];exact Has.fresh _ _ _
 have Y3:Has w3 (w.heap.size+1) 58 qZ:=by rw [<-rh];exact Y2.more _
 have X3:Has w3 w.heap.size 71 #[.int .i64 k,kS d,kS x,.int .i64 t]:=by rw [<-rh];exact X2.more _
 obtain ⟨w4,N7⟩:=qY (w3.setRow (w.heap.size+2) (recC p k 0 t 0 (.slice none 0 0) x));have b4:Hid (qW w w4):=by rw [<-N7];exact b3.rowK (by omega) _
 have Z4:Hid (Has w4 (w.heap.size+2) 58 (recC p k 0 t 0 (.slice none 0 0) x)):=by rw [<-N7];exact Z3.o.row
 have Y4:Hid (Has w4 (w.heap.size+1) 58 qZ):=by rw [<-N7];exact Y3.rowOther (by omega)
 have X4:Hid (Has w4 w.heap.size 71 #[.int .i64 k,kS d,kS x,.int .i64 t]):=by rw [<-N7];exact X3.rowOther (by omega)
 have zy:=hid s1;have C6:=hid s2;have n0:=X2.at_ 0;have n2:=X2.at_ 2;have n3:=X2.at_ 3;have m0:=X4.o.at_ 0;have m1:=X4.o.at_ 1;clear b1 b2 b3 X1 X2 X3 Y2 Y3 s3;by_cases h1:k=1
 .
  subst h1;have p5:d.length<=4096:=hd rfl;have q:((1:Int) == 1)=true:=rfl;obtain ⟨w5,si⟩:=qY (w4.drew);have b5:Hid (qW w w5):=by rw [<-si];exact b4.o.drew
  have X5:Hid (Has w5 w.heap.size 71 #[.int .i64 1,kS d,kS x,.int .i64 t]):=by rw [<-si];exact X4.o
  have Y5:Hid (Has w5 (w.heap.size+1) 58 qZ):=by rw [<-si];exact Y4.o
  have Z5:Hid (Has w5 (w.heap.size+2) 58 (recC p 1 0 t 0 (.slice none 0 0) x)):=by rw [<-si];exact Z4.o
  have CS:Hid (∀W,qC 101 #[.int .i64 (((ba d).size:Nat):Int)] W fun e w'=>e=.returned (.int .i64 (sizeI (((ba d).size:Nat):Int):Int))/\W=w'):=fun W=>pG _ W
  have rt:(sizeI (((ba d).size:Nat):Int):Int) < 9223372036854775808:=by
   have:=Gk (((ba d).size:Nat):Int);omega
  have p9:(((ba d).size:Nat):Int) < 9223372036854775808:=by rw [aD];omega
  obtain ⟨bs,BY⟩:∃bs:Nat,Hid (sizeI (((ba d).size:Nat):Int)=bs):=⟨_,rfl⟩;rw [BY.o] at CS rt;obtain ⟨sz,tp⟩:∃sz:Nat,Hid ((ba d).size=sz):=⟨_,rfl⟩;obtain ⟨w6,uk⟩:=qY (w5.setCell ⟨w.heap.size+2,3,none⟩ (.int .i64 (((ba d).size:Nat):Int)));have b6:Hid (qW w w6):=by rw [<-uk];exact b5.o.setCell (p:=⟨w.heap.size+2,3,none⟩) (by show _<=w.heap.size+2;omega) _
  have X6:Hid (Has w6 w.heap.size 71 #[.int .i64 1,kS d,kS x,.int .i64 t]):=by rw [<-uk];exact X5.o.other (by show _≠w.heap.size+2;omega) _
  have Y6:Hid (Has w6 (w.heap.size+1) 58 qZ):=by rw [<-uk];exact Y5.o.other (by show _≠w.heap.size+2;omega) _
  have Z6:Hid (Has w6 (w.heap.size+2) 58 (recC p 1 (((ba d).size:Nat):Int) t 0 (.slice none 0 0) x)):=by rw [<-uk];exact Z5.o.put 3 _
  obtain ⟨w7,yj⟩:=qY (w6.setCell ⟨w.heap.size+2,22,none⟩ (.int .i64 (bs:Int)));have b7:Hid (qW w w7):=by rw [<-yj];exact b6.o.setCell (p:=⟨w.heap.size+2,22,none⟩) (by show _<=w.heap.size+2;omega) _
  have X7:Hid (Has w7 w.heap.size 71 #[.int .i64 1,kS d,kS x,.int .i64 t]):=by rw [<-yj];exact X6.o.other (by show _≠w.heap.size+2;omega) _
  have Y7:Hid (Has w7 (w.heap.size+1) 58 qZ):=by rw [<-yj];exact Y6.o.other (by show _≠w.heap.size+2;omega) _
  have Z7:Hid (Has w7 (w.heap.size+2) 58 (recC p 1 (((ba d).size:Nat):Int) t (bs:Int) (.slice none 0 0) x)):=by rw [<-yj];exact Z6.o.put 22 _
  have p1:w7.cell? ⟨w.heap.size,1,none⟩=some (kS d):=X7.o.at_ 1;have BZ:=uU (ba d) w7;obtain ⟨cp,uo⟩:=qY (grownCap w7 (ba d).size 0 5);obtain ⟨w8,ul⟩:=qY (Lib.bytesWorld w7 5 (ba d));have CG:=xX (ba d) w7;have OB:qW w7 w8:=ul▸wW (ba d) w7;rw [uo,ul] at CG BZ;have DU:Hid (Bytes w8 (.slice (some ⟨w7.heap.size,0,none⟩) (ba d).size cp) d (some ⟨w7.heap.size,0,none⟩) cp w7.heap.size 0):=CG;have HT8:Hid (Sha.Tab w8):=(hT.kept b7.o hT.pos).kept OB (Nat.lt_of_lt_of_le hT.pos b7.o.size);have b8:Hid (qW w w8):=b7.o.trans (OB.mono b7.o.size);have CL:=hid (Tv _ d _ cp w7.heap.size 0 w8 HT8.o DU.o p5);have Z8:Hid (Has w8 (w.heap.size+2) 58 (recC p 1 (((ba d).size:Nat):Int) t (bs:Int) (.slice none 0 0) x)):=Z7.o.kept OB Z7.o.inside;have Y8:Hid (Has w8 (w.heap.size+1) 58 qZ):=Y7.o.kept OB Y7.o.inside;have UV:Hid (∀v,recN p ⟨1,d,x,t⟩ v=recC p 1 (((ba d).size:Nat):Int) t (bs:Int) v x):=by
   intro v;show recC p 1 (qF _) t (xZ _) v x=_
   have e1:qF ⟨1,d,x,t⟩=(((ba d).size:Nat):Int):=by unfold qF;rw [if_pos rfl,aD]
   have e2:xZ ⟨1,d,x,t⟩=(bs:Int):=by unfold xZ;rw [if_pos rfl,<-BY.o,aD]
   rw [e1,e2]
  have UW:Hid (hasN ⟨1,d,x,t⟩=hashes d):=by show _=_;unfold hasN;rw [if_pos rfl]
  clear ul uo CG OB hd hT p5;go_enter Tryz.func54,Tryz.ntmps54
  go_wp2_with (first
   | (refine wpList_store_row rfl 58 (.tmp 5) (.tmp 13) rfl (w.heap.size+2) (recC p 1 0 t 0 (.slice none 0 0) x) rfl rfl 58 _ Z3.o (by kernel_rfl) rfl (by simp [recC,Value.oneCell']) ?_;rw [N7]))
  refine qG (S:=fun W=>Has W w.heap.size 71 #[.int .i64 1,kS d,kS x,.int .i64 t]) (by kernel_rfl) (by rw [si];exact X5.o) (fun hS=>?_);clear hS;rw [si];refine aG 0 ?_
  iterate 6
   refine qT rfl (by kernel_rfl) ‹_› (fun w a8=>by have c1:=a8.at_ 1;go_simp;with_reducible rfl) ?_;simp only [Act.put,aB,aA,aC,Nat.reduceAdd]
  refine aE ?_;refine qK 7 rfl (by kernel_rfl) ‹_› (fun w a8=>by go_simp;with_reducible rfl) ?_;simp only [Act.put,aB,aA,aC];refine qD 6 rfl (by kernel_rfl) fun K hK=>?_
  go_simp;refine (CS.o _).mono ?_;rintro e1 wq ⟨rfl,rfl⟩;have g8:=X5.o;refine hK.o _ _ g8 (fun hS=>?_);clear hK K hS;refine qD 8 rfl (by kernel_rfl) fun K hK=>?_
  have hc:w5.cell? ⟨w.heap.size+2,3,none⟩=some (.int .i64 0):=Z5.o.at_ 3;have hf:=Z5.o.free 3;go_simp;try rw [uk]
  refine hK.o _ _ X6.o (fun hS=>?_);clear hK K hS hc hf;refine qK 9 rfl (by kernel_rfl) ‹_› (fun w a8=>by go_simp;with_reducible rfl) ?_;simp only [Act.put,aB,aA,aC];refine qD 10 rfl (by kernel_rfl) fun K hK=>?_
  have hc:w6.cell? ⟨w.heap.size+2,22,none⟩=some (.int .i64 0):=Z6.o.at_ 22;have hf:=Z6.o.free 22;go_simp;try rw [yj]
  refine hK.o _ _ X7.o (fun hS=>?_);clear hK K hS hc hf;refine qM (by kernel_rfl) ?_;go_wp2_with fail
  refine CL.o.mono ?_;rintro e9 w9 ⟨bv,rfl,hD,x7⟩;obtain ⟨A9,c9,rfl⟩:=hD.form;have D9:=hid hD;have b9:Hid (qW w w9):=b8.o.trans (x7.mono b8.o.size);have Z9:Hid (Has w9 (w.heap.size+2) 58 (recC p 1 (((ba d).size:Nat):Int) t (bs:Int) (.slice none 0 0) x)):=Z8.o.kept x7 Z8.o.inside;have Y9:Hid (Has w9 (w.heap.size+1) 58 qZ):=Y8.o.kept x7 Y8.o.inside;have ot:Hid (∀b,(Value.slice A9 (hashes d).length c9).ownBlock=some b->b≠w.heap.size+1/\b≠w.heap.size+2):=fun b hb=>by
   have h1:=(D9.o.own.lt b hb).1;have h2:=Z8.o.inside;omega
  clear hD x7;have c9c:w9.cell? ⟨w.heap.size+2,23,none⟩=some (.slice none 0 0):=Z9.o.at_ 23;have c9f:=Z9.o.free 23;obtain ⟨r5,N8⟩:=qY (w9.setCell ⟨w.heap.size+2,23,none⟩ (.slice A9 (hashes d).length c9));have G6:Hid (qW w r5):=by rw [<-N8];exact b9.o.setCell (p:=⟨w.heap.size+2,23,none⟩) (by show _<=w.heap.size+2;omega) _
  have LS:Hid (Has r5 (w.heap.size+2) 58 (recC p 1 (((ba d).size:Nat):Int) t (bs:Int) (.slice A9 (hashes d).length c9) x)):=by rw [<-N8];exact Z9.o.put 23 _
  have RP:Hid (Has r5 (w.heap.size+1) 58 qZ):=by rw [<-N8];exact Y9.o.other (by show _≠w.heap.size+2;omega) _
  have OC:Hid (Dgs w.heap.size r5 (.slice A9 (hashes d).length c9) (hashes d)):=by
   have hd9:=D9.o.mono b8.o.size;refine ⟨row_of hd9.own fun b hb=>?_,hd9.len⟩;rw [<-N8];exact Below.heap_setCell w9 ⟨w.heap.size+2,23,none⟩ _ b (ot.o b hb).2
  obtain ⟨pw,nj⟩:=qY (r5.setRow (w.heap.size+1) (recC p 1 (((ba d).size:Nat):Int) t (bs:Int) (.slice A9 (hashes d).length c9) x));have RQ:Hid (qW w pw):=by rw [<-nj];exact G6.o.rowK (by omega) _
  have OF:Hid (Has pw (w.heap.size+1) 58 (recC p 1 (((ba d).size:Nat):Int) t (bs:Int) (.slice A9 (hashes d).length c9) x)):=by rw [<-nj];exact RP.o.row
  have RS:Hid (Dgs w.heap.size pw (.slice A9 (hashes d).length c9) (hashes d)):=by
   refine ⟨row_of OC.o.own fun b hb=>?_,OC.o.len⟩;rw [<-nj];exact setRow_other r5 (w.heap.size+1) b _ (ot.o b hb).1
  obtain ⟨hn,FV⟩:=qX ((hashes d).length);rw [FV.o] at LS OF RS N8 nj;rw [FV.o];go_wp2_with (first
   | (refine aT rfl 58 (.tmp 5) rfl (w.heap.size+2) 0 rfl (recC p 1 (((ba d).size:Nat):Int) t (bs:Int) (.slice A9 hn c9) x) (gI LS.o rfl) ?_)
   | (refine wpList_store_row rfl 58 (.tmp 4) (.tmp 34) rfl (w.heap.size+1) (recC p 1 (((ba d).size:Nat):Int) t (bs:Int) (.slice A9 hn c9) x) rfl rfl 58 _ RP.o (by kernel_rfl) rfl (by simp [recC,Value.oneCell']) ?_;rw [nj]))
  refine bodyPost_ret (results_cell_row rfl _ _ (w.heap.size+1) 58 (recC p 1 (((ba d).size:Nat):Int) t (bs:Int) (.slice A9 hn c9) x) (0,0) _ rfl OF.o Tryz.underlying58 rfl Xl) rfl ?_;exact ⟨_,(by rw [UV.o]),(by rw [UW.o];exact RS.o),RQ.o⟩
 have q:(k == 1)=false:=by simpa using h1
 have HR:Hid (recN p ⟨k,d,x,t⟩ (.slice none 0 0)=recC p k 0 t 0 (.slice none 0 0) x):=by show _=_;unfold recN qF xZ;simp only [if_neg h1]
 have HH:Hid (hasN ⟨k,d,x,t⟩=[]):=by show _=_;unfold hasN;rw [if_neg h1]
 obtain ⟨w5,si⟩:=qY (w4.setRow (w.heap.size+1) (recC p k 0 t 0 (.slice none 0 0) x));have b5:Hid (qW w w5):=by rw [<-si];exact b4.o.rowK (by omega) _
 have Y5:Hid (Has w5 (w.heap.size+1) 58 (recC p k 0 t 0 (.slice none 0 0) x)):=by rw [<-si];exact Y4.o.row
 clear h1;go_enter Tryz.func54,Tryz.ntmps54
 go_wp2_with (first
  | (refine wpList_store_row rfl 58 (.tmp 5) (.tmp 13) rfl (w.heap.size+2) (recC p k 0 t 0 (.slice none 0 0) x) rfl rfl 58 _ Z3.o (by kernel_rfl) rfl (by simp [recC,Value.oneCell']) ?_;rw [N7])
  | (refine aT rfl 58 (.tmp 5) rfl (w.heap.size+2) 0 rfl (recC p k 0 t 0 (.slice none 0 0) x) (gI Z4.o rfl) ?_)
  | (refine wpList_store_row rfl 58 (.tmp 4) (.tmp 34) rfl (w.heap.size+1) (recC p k 0 t 0 (.slice none 0 0) x) rfl rfl 58 _ Y4.o (by kernel_rfl) rfl (by simp [recC,Value.oneCell']) ?_;rw [si]))
 refine bodyPost_ret (results_cell_row rfl _ _ (w.heap.size+1) 58 (recC p k 0 t 0 (.slice none 0 0) x) (0,0) _ rfl Y5.o Tryz.underlying58 rfl Xl) rfl ?_;exact ⟨.slice none 0 0,(by rw [HR.o]),(by rw [HH.o];exact Dgs.nil _ _),b5.o⟩
abbrev At:Type:=By × Nd
def at0:At:=([],n0)
def atCells (x:At):Array Value:=#[kS x.1,.int .i64 x.2.kind,kS x.2.data,kS x.2.target,.int .i64 x.2.time]
def kU (L:Tr):List Value:=L.flatMap fun x=>(atCells x).toList
def dR (B:Nat) (w:World) (v:Value) (L:Tr):Prop:=w.ownsRow B 73 5 v L.length (kU L)
def uL (L:Tr) (x:At):kU (L++[x])=kU L++(atCells x).toList:=by simp [kU]
def Ax (L:Tr) (k:Nat) (hk:k < L.length) (j:Nat) (hj:j < 5):(kU L)[k*5+j]? = (atCells (L.getD k at0)).toList[j]?:=by
 induction L generalizing k with
 | nil=>simp at hk
 | cons x r ih =>
  show ((atCells x).toList++kU r)[k*5+j]? = _
  cases k with
  | zero =>
   rw [List.getElem?_append_left (by show 0*5+j < 5;omega)];simp [List.getD]
  | succ k =>
   rw [List.getElem?_append_right (by show 5<=(k+1)*5+j;omega)];rw [show (k+1)*5+j - (atCells x).toList.length=k*5+j by show (k+1)*5+j - 5=_;omega];rw [ih k (by simpa using hk)];simp [List.getD]
def dR.nil (B:Nat) (w:World):dR B w (.slice none 0 0) []:=World.ownsRow_nil _ _ _ _
def dR.form {B:Nat} {w:World} {v:Value} {L:Tr} (h:dR B w v L):∃A c,v=.slice A L.length c:=by
 rcases h.2 with ⟨h1,h2⟩ | ⟨g,c,cur,h1,_⟩
 . exact ⟨none,0,by rw [h1,h2]⟩
 exact ⟨some ⟨g,0,none⟩,c,h1⟩
def dR.mono {B B':Nat} {w:World} {v:Value} {L:Tr} (h:dR B w v L) (hb:B'<=B):dR B' w v L:=by
 refine ⟨h.1,?_⟩;rcases h.2 with h1 | ⟨g,c,cur,h1,h2,h3⟩
 . exact .inl h1
 exact .inr ⟨g,c,cur,h1,Nat.le_trans hb h2,h3⟩
def dR.on {B:Nat} {w w':World} {v:Value} {L:Tr} (h:dR B w v L) (hb:qW w w'):dR B w' v L:=row_of h fun g hg=>hb.block g (World.ownsRow.lt h g hg).2
structure AtAt (w:World) (g o:Nat) (x:At):Prop where
 c0:w.cell? ⟨g,o,none⟩=some (kS x.1)
 c1:w.cell? ⟨g,o+1,none⟩=some (.int .i64 x.2.kind)
 c2:w.cell? ⟨g,o+2,none⟩=some (kS x.2.data)
 c3:w.cell? ⟨g,o+3,none⟩=some (kS x.2.target)
 c4:w.cell? ⟨g,o+4,none⟩=some (.int .i64 x.2.time)
def AtAt.load {w:World} {g o:Nat} {x:At} (h:AtAt w g o x):(loadVar 73 ⟨g,o,none⟩).run Tryz.prog w=.ok (.agg (atCells x)) w:=by
 refine run_loadVar_mid (P:=Tryz.prog) w g o 73 (atCells x).toList _ (fun j u hj=>?_) Tryz.underlying73 rfl (by show _=some 5;kernel_rfl);match j,hj with
 | 0,hj=>obtain rfl:=Option.some.inj hj;exact h.c0
 | 1,hj=>obtain rfl:=Option.some.inj hj;exact h.c1
 | 2,hj=>obtain rfl:=Option.some.inj hj;exact h.c2
 | 3,hj=>obtain rfl:=Option.some.inj hj;exact h.c3
 | 4,hj=>obtain rfl:=Option.some.inj hj;exact h.c4
 | j+5,hj=>simp [atCells] at hj
def AtAt.node {w:World} {g o:Nat} {x:At} (h:AtAt w g o x):(loadVar 71 ⟨g,o+1,none⟩).run Tryz.prog w=.ok (.agg (dU x.2.kind x.2.data x.2.target x.2.time)) w:=by
 refine run_loadVar_mid (P:=Tryz.prog) w g (o+1) 71 (dU x.2.kind x.2.data x.2.target x.2.time).toList _ (fun j u hj=>?_) Tryz.underlying71 rfl (by show _=some 4;kernel_rfl);match j,hj with
 | 0,hj=>obtain rfl:=Option.some.inj hj;exact h.c1
 | 1,hj=>obtain rfl:=Option.some.inj hj;exact h.c2
 | 2,hj=>obtain rfl:=Option.some.inj hj;exact h.c3
 | 3,hj=>obtain rfl:=Option.some.inj hj;exact h.c4
 | j+4,hj=>simp at hj
def AtAt.on {w w':World} {g o:Nat} {x:At} (h:AtAt w g o x) (hb:qW w w'):AtAt w' g o x:=by
 have k:g < w.heap.size:=block_lt_of_cell (a:=⟨g,o,none⟩) h.c0;exact ⟨(hb.cell (p:=⟨g,o,none⟩) k).trans h.c0,(hb.cell (p:=⟨g,o+1,none⟩) k).trans h.c1,(hb.cell (p:=⟨g,o+2,none⟩) k).trans h.c2,(hb.cell (p:=⟨g,o+3,none⟩) k).trans h.c3,(hb.cell (p:=⟨g,o+4,none⟩) k).trans h.c4⟩
def dR.at_ {B:Nat} {w:World} {v:Value} {L:Tr} (h:dR B w v L) (k:Nat) (hk:k < L.length):∃g c,v=.slice (some ⟨g,0,none⟩) L.length c/\B<=g/\AtAt w g (k*5) (L.getD k at0):=by
 rcases h.2 with ⟨_,h3⟩ | ⟨g,c,cur,h3,hB,h4,h5⟩
 . omega
 refine ⟨g,c,h3,hB,?_⟩;subst h3;have hc:∀j,j < 5->∀u,(atCells (L.getD k at0)).toList[j]? = some u->w.cell? ⟨g,k*5+j,none⟩=some u:=fun j hj u hu=>by
  have:=World.ownsRow.cells (g:=g) h rfl (k*5+j) u (by rw [Ax L k hk j hj];exact hu);rwa [bY,Nat.zero_add] at this
 exact ⟨hc 0 (by omega) _ rfl,hc 1 (by omega) _ rfl,hc 2 (by omega) _ rfl,hc 3 (by omega) _ rfl,hc 4 (by omega) _ rfl⟩
def infoAt:(Tryz.prog.info? 73).map (fun i=>(i.zero,i.size,i.bytes))=some (some (.agg #[.string ⟨#[]⟩,.int .i64 0,.string ⟨#[]⟩,.string ⟨#[]⟩,.int .i64 0]),5,64):=by kernel_rfl
def zY (w:World) (B:Nat) (v:Value) (L:Tr) (h:dR B w v L) (x:At) (g:Nat) (hg:Has w g 73 (atCells x)) (hn:L.length<=100000) (hB:B<=w.heap.size) (ty:TypeId) :
 ∃v' w',(Builtin.append_ #[64,64] ty #[v,.slice (some ⟨g,0,none⟩) 1 1]).run Tryz.prog w=.ok v' w'/\dR B w' v' (L++[x])/\w.grownBy w' v.ownBlock:=by
 obtain ⟨i0,hi,o7,g8,j5⟩:=info_parts infoAt;obtain ⟨v',w',hr,ho,vn,_,hv⟩:=run_append_own_at (P:=Tryz.prog) w B 64 ty 73 i0 _ 5 64 Tryz.underlying64 hi o7 g8 j5 (by simp [Value.cells]) (by omega) v L.length (kU L) h ⟨g,0,none⟩ 1 1 (atCells x).toList rfl
  (fun j u hj=>by
    rw [bY,Nat.zero_add,hg.at_ j];rw [<-Array.getElem?_toList];exact hj) (fun u hu=>by
    simp only [atCells,List.mem_cons,List.not_mem_nil,or_false] at hu;rcases hu with rfl | rfl | rfl | rfl | rfl<;>rfl) (by unfold maxLen;omega) (by omega) hB
 refine ⟨v',w',hr,?_,vn⟩;unfold dR;rw [uL,List.length_append];exact ho
def Cw (w:World) (x:At) :
 (Instr.buildSlice 64 1 #[(0,Value.agg (atCells x))]).run Tryz.prog w=.ok (.slice (some ⟨w.heap.size,0,none⟩) 1 1) (w.alloc (.cells (atCells x) 73)):=by
 have hI:(Tryz.prog.info? 73).map (fun i=>(i.size,i.zero))=some (5,some (.agg #[.string ⟨#[]⟩,.int .i64 0,.string ⟨#[]⟩,.string ⟨#[]⟩,.int .i64 0])):=by kernel_rfl
 cases hie:Tryz.prog.info? 73 with
 | none=>rw [hie] at hI;cases hI
 | some ie =>
  rw [hie] at hI;simp only [Option.map_some,Option.some.injEq,Prod.mk.injEq] at hI;refine run_buildSlice (P:=Tryz.prog) w 64 73 1 _ _ ie _ Tryz.underlying64 hie hI.2 (by rw [hI.1];omega) (by rw [hI.1];omega) ?_;rw [hI.1];refine (Great.fill_whole (s:=5) (by omega) [Value.agg (atCells x)] _ (fun v hv=>?_) (by simp)).trans (by simp [Value.cells]);simp only [List.mem_singleton] at hv;subst hv;rfl
section
variable {ops:Array Oper} {o:Oper} {a:Act}
theorem bF {w:World} {K:Act->World->Prop} {Q:Exit->Act->World->Prop} {E:Prop} (hw:Region.wanted o (yielded ops a.tmps)=true)
 (y:Operand) (ho:o.op=.buildSlice 64 1 #[(0,y)]) (x:At) (hx:a.eval y=.agg (atCells x))
 (h:K (a.put o.dst (.slice (some ⟨w.heap.size,0,none⟩) 1 1)) (w.alloc (.cells (atCells x) 73))):if Region.wanted o (yielded ops a.tmps)=true then Oper.wp Tryz.prog o a w K Q else E:=by
 rw [if_pos hw];unfold Oper.wp execOp;simp only [ho,Sem.run_bind,List.map_toArray,List.map_cons,List.map_nil,hx,Cw w x,Result.andThen_ok];exact h
end
structure TreeR (w:World) (t:Nat) (L:Tr) (room:Nat):Prop where
 ex:∃v,Has w t 131 #[v,.int .i64 (room:Int)]/\dR 0 w v L
def TreeR.on {w w':World} {t:Nat} {L:Tr} {room:Nat} (h:TreeR w t L room) (hb:qW w w'):TreeR w' t L room:=by
 obtain ⟨v,h1,h2⟩:=h.ex;exact ⟨v,h1.kept hb h1.inside,h2.on hb⟩
structure gN (B:Nat) (w:World) (t:Nat) (L:Tr) (room:Nat):Prop where
 ex:∃v,Has w t 131 #[v,.int .i64 (room:Int)]/\dR B w v L
 low:B<=t
def gN.tree {B:Nat} {w:World} {t:Nat} {L:Tr} {room:Nat} (h:gN B w t L room):TreeR w t L room:=by
 obtain ⟨v,h1,h2⟩:=h.ex;exact ⟨v,h1,h2.mono (Nat.zero_le _)⟩
def gN.mono {B B':Nat} {w:World} {t:Nat} {L:Tr} {room:Nat} (h:gN B w t L room) (hb:B'<=B):gN B' w t L room:=by
 obtain ⟨v,h1,h2⟩:=h.ex;exact ⟨⟨v,h1,h2.mono hb⟩,Nat.le_trans hb h.low⟩
def gN.on {B:Nat} {w w':World} {t:Nat} {L:Tr} {room:Nat} (h:gN B w t L room) (hb:qW w w'):gN B w' t L room:=by
 obtain ⟨v,h1,h2⟩:=h.ex;exact ⟨⟨v,h1.kept hb h1.inside,h2.on hb⟩,h.low⟩
structure TV (w:World) (t:Nat) (A:Option Addr) (n c:Nat) (L:Tr) (room:Nat):Prop where
 c0:w.cell? ⟨t,0,none⟩=some (.slice A n c)
 c1:w.cell? ⟨t,1,none⟩=some (.int .i64 (room:Int))
 len:L.length=n
 row:0 < n->∃g,A=some ⟨g,0,none⟩/\∀k,k < n->AtAt w g (k*5) (L.getD k at0)
def TreeR.view {w:World} {t:Nat} {L:Tr} {room:Nat} (h:TreeR w t L room):∃A n c,TV w t A n c L room:=by
 obtain ⟨v,h1,h2⟩:=h.ex;obtain ⟨A,c,rfl⟩:=h2.form;refine ⟨A,L.length,c,h1.at_ 0,h1.at_ 1,rfl,fun h0=>?_⟩;obtain ⟨g,c',e,_,_⟩:=h2.at_ 0 h0;injection e with e1 _ _;refine ⟨g,e1,fun k hk=>?_⟩;obtain ⟨g',c2,e',_,ha⟩:=h2.at_ k hk;injection e' with e2 _ _;have:g=g':=by rw [e1] at e2;injection e2 with e2;injection e2
 subst this;exact ha
def TV.on {w w':World} {t:Nat} {A:Option Addr} {n c:Nat} {L:Tr} {room:Nat} (h:TV w t A n c L room) (hb:qW w w'):TV w' t A n c L room:=by
 have k:t < w.heap.size:=block_lt_of_cell (a:=⟨t,0,none⟩) h.c0;refine ⟨(hb.cell (p:=⟨t,0,none⟩) k).trans h.c0,(hb.cell (p:=⟨t,1,none⟩) k).trans h.c1,h.len,fun h0=>?_⟩;obtain ⟨g,e,ha⟩:=h.row h0;exact ⟨g,e,fun k hk=>(ha k hk).on hb⟩
def getD_at {L:Tr} {k:Nat} (hk:k < L.length):L.getD k at0=L[k]:=by rw [List.getD,List.getElem?_eq_getElem hk];rfl
def rB {L:Tr} {k:Nat} (hk:k < L.length):L.take (k+1)=L.take k++[L.getD k at0]:=by rw [getD_at hk];exact List.take_succ_eq_append_getElem hk
def Qn {L:Tr} {k:Nat} (hk:k < L.length):L.drop k=L.getD k at0 :: L.drop (k+1):=by rw [getD_at hk];exact List.drop_eq_getElem_cons hk
def fg {L:Tr} {k:Nat} (hk:k < L.length):L.getD k at0∈L:=by rw [getD_at hk];exact List.getElem_mem hk
def Yg {L:Tr} (hs:cZ L) {k:Nat} (hk:k < L.length):look L (L.getD k at0).1=some (L.getD k at0).2:=dS hs (fg hk)
def Kg {L:Tr} {k:Nat} (hk:k < L.length):usedL (L.take (k+1))=usedL (L.take k)+(64+(L.getD k at0).2.data.length):=by
 rw [getD_at hk];exact Px hk
open Go.RowKit Go.Maps
def Za:(Tryz.prog.info? 142).map (fun i=>(i.zero,i.size,i.bytes))=some (some (.agg #[.string ⟨#[]⟩,.int .i64 0,.string ⟨#[]⟩,.string ⟨#[]⟩,.int .i64 0]),5,64):=by kernel_rfl
def dZ (B:Nat) (w:World) (v:Value) (L:Tr):Prop:=w.ownsRow B 142 5 v L.length (kU L)
def dZ.nil (B:Nat) (w:World):dZ B w (.slice none 0 0) []:=World.ownsRow_nil _ _ _ _
def dZ.form {B:Nat} {w:World} {v:Value} {L:Tr} (h:dZ B w v L):∃A c,v=.slice A L.length c:=by
 rcases h.2 with ⟨h1,h2⟩ | ⟨g,c,cur,h1,_⟩
 . exact ⟨none,0,by rw [h1,h2]⟩
 exact ⟨some ⟨g,0,none⟩,c,h1⟩
def dZ.on {B:Nat} {w w':World} {v:Value} {L:Tr} (h:dZ B w v L) (hb:qW w w'):dZ B w' v L:=row_of h fun g hg=>hb.block g (World.ownsRow.lt h g hg).2
def dZ.mono {B B':Nat} {w:World} {v:Value} {L:Tr} (h:dZ B w v L) (hb:B'<=B):dZ B' w v L:=by
 refine ⟨h.1,?_⟩;rcases h.2 with h1 | ⟨g,c,cur,h1,h2,h3⟩
 . exact .inl h1
 exact .inr ⟨g,c,cur,h1,Nat.le_trans hb h2,h3⟩
def dZ.at_ {B:Nat} {w:World} {v:Value} {L:Tr} (h:dZ B w v L) (k:Nat) (hk:k < L.length):∃g c,v=.slice (some ⟨g,0,none⟩) L.length c/\B<=g/\AtAt w g (k*5) (L.getD k at0):=by
 rcases h.2 with ⟨_,h3⟩ | ⟨g,c,cur,h3,hB,h4,h5⟩
 . omega
 refine ⟨g,c,h3,hB,?_⟩;subst h3;have hc:∀j,j < 5->∀u,(atCells (L.getD k at0)).toList[j]? = some u->w.cell? ⟨g,k*5+j,none⟩=some u:=fun j hj u hu=>by
  have:=World.ownsRow.cells (g:=g) h rfl (k*5+j) u (by rw [Ax L k hk j hj];exact hu);rwa [bY,Nat.zero_add] at this
 exact ⟨hc 0 (by omega) _ rfl,hc 1 (by omega) _ rfl,hc 2 (by omega) _ rfl,hc 3 (by omega) _ rfl,hc 4 (by omega) _ rfl⟩
def Mh (w:World) (B:Nat) (v:Value) (L:Tr) (h:dZ B w v L) (x:At) (g:Nat) (hg:Has w g 142 (atCells x)) (hn:L.length<=100000) (hB:B<=w.heap.size) (ty:TypeId) :
 ∃v' w',(Builtin.append_ #[139,139] ty #[v,.slice (some ⟨g,0,none⟩) 1 1]).run Tryz.prog w=.ok v' w'/\dZ B w' v' (L++[x])/\w.grownBy w' v.ownBlock:=by
 obtain ⟨i0,hi,o7,g8,j5⟩:=info_parts Za;obtain ⟨v',w',hr,ho,vn,_,hv⟩:=run_append_own_at (P:=Tryz.prog) w B 139 ty 142 i0 _ 5 64 Tryz.underlying139 hi o7 g8 j5 (by simp [Value.cells]) (by omega) v L.length (kU L) h ⟨g,0,none⟩ 1 1 (atCells x).toList rfl
  (fun j u hj=>by
    rw [bY,Nat.zero_add,hg.at_ j];rw [<-Array.getElem?_toList];exact hj) (fun u hu=>by
    simp only [atCells,List.mem_cons,List.not_mem_nil,or_false] at hu;rcases hu with rfl | rfl | rfl | rfl | rfl<;>rfl) (by unfold maxLen;omega) (by omega) hB
 refine ⟨v',w',hr,?_,vn⟩;unfold dZ;rw [uL,List.length_append];exact ho
def Bk (w:World) (x:At) :
 (Instr.buildSlice 139 1 #[(0,Value.agg (atCells x))]).run Tryz.prog w=.ok (.slice (some ⟨w.heap.size,0,none⟩) 1 1) (w.alloc (.cells (atCells x) 142)):=by
 have hI:(Tryz.prog.info? 142).map (fun i=>(i.size,i.zero))=some (5,some (.agg #[.string ⟨#[]⟩,.int .i64 0,.string ⟨#[]⟩,.string ⟨#[]⟩,.int .i64 0])):=by kernel_rfl
 cases hie:Tryz.prog.info? 142 with
 | none=>rw [hie] at hI;cases hI
 | some ie =>
  rw [hie] at hI;simp only [Option.map_some,Option.some.injEq,Prod.mk.injEq] at hI;refine run_buildSlice (P:=Tryz.prog) w 139 142 1 _ _ ie _ Tryz.underlying139 hie hI.2 (by rw [hI.1];omega) (by rw [hI.1];omega) ?_;rw [hI.1];refine (Great.fill_whole (s:=5) (by omega) [Value.agg (atCells x)] _ (fun v hv=>?_) (by simp)).trans (by simp [Value.cells]);simp only [List.mem_singleton] at hv;subst hv;rfl
section
variable {ops:Array Oper} {Q:Exit->Act->World->Prop} {a:Act} {w:World} {rest:List Oper} {o:Oper}
theorem vP (hw:Region.wanted o (yielded ops a.tmps)=true) (y:Operand) (ho:o.op=.buildSlice 139 1 #[(0,y)]) (p:By) (k:Int) (d x:By) (t:Int) (hx:a.eval y=.agg #[kS p,.int .i64 k,kS d,kS x,.int .i64 t])
 (h:wpList Tryz.prog ops Q rest (a.put o.dst (.slice (some ⟨w.heap.size,0,none⟩) 1 1)) (w.alloc (.cells (atCells (p,⟨k,d,x,t⟩)) 142))):wpList Tryz.prog ops Q (o :: rest) a w :=
 eV hw fun _ hK=>by
  unfold Oper.wp execOp;have e:=Bk w (p,⟨k,d,x,t⟩);simp only [ho,Sem.run_bind,List.map_toArray,List.map_cons,List.map_nil,hx];unfold atCells at e;simp only at e;rw [e];exact hK _ _ h
end
def Up (L:Tr) (x:At) (root:By):inL (L++[x]) root=if (root++[47]).isPrefixOf x.1 then inL L root++[(x.1.drop (root.length+1),x.2)] else inL L root:=by
 unfold inL;rw [List.filterMap_append,List.filterMap_cons,List.filterMap_nil];by_cases h:(root++[47]).isPrefixOf x.1=true
 . simp only [h,if_true]
 simp only [h];simp
def Tx {own:Nat->Prop} {w:World} {p:Nat} {M:Mo} (h:Dsk own w p M) (hG:Gd w) (root:By) (hr:root.length<=4000) :
 qC 67 #[.pointer (some ⟨p,0,none⟩),kS root] w fun e w'=>∃v,e=.returned v/\dZ w.heap.size w' v (inL M.now root)/\qW w w':=by
 have CP:=hid (Lo h);obtain ⟨L,HL⟩:=qX (M.now);obtain ⟨n,HN⟩:=qX (L.length);have hn:n<=100000:=by
  obtain ⟨m1,m2,sv,vs,h'⟩:=h;rw [<-HN.o,<-HL.o];exact h'.tr1.len
 have G5:Hid ((pathsL L).length=n):=by show _=_;unfold pathsL;rw [List.length_map];exact HN.o
 have RT:Hid (∀k (hk:k < (pathsL L).length),(pathsL L)[k]=(L.getD k at0).1):=fun k hk=>by
  have Q9:k < L.length:=by rw [show (pathsL L).length=L.length from List.length_map _] at hk;exact hk
  rw [getD_at Q9];exact List.getElem_map _
 have CR:Hid (∀W,qW w W->∀k,k < n->qC 61 #[.pointer (some ⟨p,0,none⟩),kS (L.getD k at0).1] W fun e w'=>e=.returned (.tuple #[nodeV (L.getD k at0).2,.int .i64 0])/\qW W w'):=fun W hb k hk=>by
  have hW:=h.good.w1;have Q9:k < M.now.length:=by rw [HL.o,HN.o];exact hk
  have hl:=Yg hW.srt Q9;have hm:=hW.may (M.now.getD k at0).1 (by rw [hl];rfl);have:=Sz (h.on hb) (hG.kept hb) (M.now.getD k at0).1 (by have:=(aU hm).1;omega);unfold Yj oH at this;rw [hm,hl] at this;rw [<-HL.o];exact this
 rw [HL.o] at CP ⊢;have DL:Hid (ba root++⟨#[47]⟩=ba (root++[47])):=zO root [47];have z1:(ba root).size<=4000:=by rw [aD];exact hr
 have CC:Hid (∀s W,qC 47 #[kS s,kS (root++[47])] W fun e w'=>e=.returned (.tuple #[kS (if (root++[47]).isPrefixOf s then s.drop (root++[47]).length else s),.bool ((root++[47]).isPrefixOf s)])/\W=w'):=fun s W=>gQ s _ W
 have nh:Hid ((root++[47]).length=root.length+1):=by show _=_;simp
 clear h hG hr;go_enter Tryz.func67,Tryz.ntmps67
 go_wp2_with fail
 refine CP.o.mono ?_;rintro e1 w1 ⟨A,c,g,rfl,np,c8⟩;have NM:=hid np;have B1:=hid c8;rw [G5.o];clear np c8;go_wp2;rw [DL.o];go_loopw [6,18] (fun v6 UX wr=>∃(k m c':Nat) (A':Option Addr),UX=.int .i64 (k:Int)/\k<=n/\v6=.slice A' m c'/\m<=k/\Hid ((inL (L.take k) root).length=m)/\Hid (dZ w1.heap.size wr (.slice A' m c') (inL (L.take k) root))/\Hid (qW w1 wr))
  (fun _ UX _=>n - (intOf UX).toNat)
 case atStart=>exact ⟨0,0,0,none,rfl,Nat.zero_le _,rfl,Nat.le_refl _,rfl,dZ.nil _ _,Below.refl _ _⟩
 obtain ⟨k,m,c',A',rfl,hk,rfl,hm,HM,HE,HB⟩:=hrel;by_cases d8:k < n
 .
  have j4:(k:Int) < (n:Int):=by omega
  have h0:(0:Int)<=(k:Int):=by omega
  have hA:=NM.o.ad (by rw [G5.o];omega);subst hA;have LT:k < (pathsL L).length:=by rw [G5.o];exact d8
  have c0:wr.cell? ⟨g,k,none⟩=some (kS (L.getD k at0).1):=by
   rw [<-RT.o k LT];exact (HB.o.cell (p:=⟨g,k,none⟩) (NM.o.low (by omega))).trans (NM.o.cell k LT)
  have uq:Hid (qW w wr):=B1.o.trans (HB.o.mono B1.o.size);have UY:=hid (CR.o wr uq.o k d8);have M6:Hid (inL (L.take (k+1)) root=if (root++[47]).isPrefixOf (L.getD k at0).1 then inL (L.take k) root++[((L.getD k at0).1.drop (root.length+1),(L.getD k at0).2)] else inL (L.take k) root):=by
   show _=_
   rw [rB (by rw [HN.o];exact d8),Up]
  have LU:IntKind.i64.wrap ((k:Int)+1)=(k:Int)+1:=aM _ (by omega) (by omega);generalize L.getD k at0=x at c0 UY M6;obtain ⟨q,⟨kd,dt,tg,tm⟩⟩:=x;simp only at c0 M6;have CR2:Hid (qC 61 #[.pointer (some ⟨p,0,none⟩),kS q] wr fun e w'=>e=.returned (.tuple #[.agg #[.int .i64 kd,kS dt,kS tg,.int .i64 tm],.int .i64 0])/\qW wr w'):=UY.o;clear UY;clear LT
  cases hp:(root++[47]).isPrefixOf q with
  | false =>
   have UZ:Hid (∀W,qC 47 #[kS q,kS (root++[47])] W fun e w'=>e=.returned (.tuple #[kS q,.bool false])/\W=w'):=fun W=>by
    have:=CC.o q W;rw [hp] at this;exact this
   have OG:Hid (inL (L.take (k+1)) root=inL (L.take k) root):=by show _=_;rw [M6.o,hp];rfl
   clear hp;go_wp2_with (go_at_call 47;refine (UZ.o _).mono ?_;rintro e2 w2 ⟨rfl,rfl⟩)
   go_roundw
   case rel=>exact ⟨k+1,m,c',A',by go_num,by omega,rfl,by omega,(by rw [OG.o];exact HM),(by rw [OG.o];exact HE),HB⟩
   case measure=>simp [intOf];omega
  | true =>
   obtain ⟨r,HRr⟩:=qX (q.drop (root.length+1));have UZ:Hid (∀W,qC 47 #[kS q,kS (root++[47])] W fun e w'=>e=.returned (.tuple #[kS r,.bool true])/\W=w'):=fun W=>by
    have:=CC.o q W;rw [hp,nh.o,HRr.o] at this;exact this
   have OG:Hid (inL (L.take (k+1)) root=inL (L.take k) root++[(r,⟨kd,dt,tg,tm⟩)]):=by show _=_;rw [M6.o,hp,HRr.o];rfl
   clear hp;go_wp2_with fail
   refine (UZ.o _).mono ?_;rintro e2 w2 ⟨rfl,rfl⟩;go_wp2_with fail
   refine CR2.o.mono ?_;rintro e3 w3 ⟨rfl,i7⟩;have B3:Hid (qW w1 w3):=HB.o.trans (i7.mono HB.o.size);have E3:Hid (dZ w1.heap.size w3 (.slice A' m c') (inL (L.take k) root)):=HE.o.on i7;clear i7;obtain ⟨w4,N7⟩:=qY (w3.alloc (.cells (dU kd dt tg tm) 71));have OH:qW w3 w4:=N7▸qB.alloc qN _;have X4:Hid (Has w4 w3.heap.size 71 (dU kd dt tg tm)):=by rw [<-N7];exact Has.fresh _ _ _
   have OI:qW w4 (w4.alloc (.cells (atCells (r,⟨kd,dt,tg,tm⟩)) 142)):=qB.alloc qN _;have AP:=Mh (w4.alloc (.cells (atCells (r,⟨kd,dt,tg,tm⟩)) 142)) w1.heap.size (.slice A' m c') (inL (L.take k) root) ((E3.o.on OH).on OI) (r,⟨kd,dt,tg,tm⟩) w4.heap.size (Has.fresh _ _ _) (by rw [HM.o];omega)
    (Nat.le_trans (Nat.le_trans B3.o.size OH.size) OI.size) 139
   obtain ⟨v5,w5,i6,RU,r8⟩:=AP;obtain ⟨A5,c5,rfl⟩:=RU.form;have DV:Hid ((inL (L.take k) root++[((r,⟨kd,dt,tg,tm⟩):At)]).length=m+1):=by show _=_;rw [List.length_append,HM.o];rfl
   rw [DV.o] at i6 RU;have R5:=hid i6;have E5:Hid (dZ w1.heap.size w5 (.slice A5 (m+1) c5) (inL (L.take (k+1)) root)):=by rw [OG.o];exact RU
   have B5:Hid (qW w1 w5):=by
    have q4:=B3.o.trans (OH.mono B3.o.size);have q5:=q4.trans (OI.mono q4.size);exact q5.grown r8 q5.size (fun g hg=>(World.ownsRow.lt ((E3.o.on OH).on OI) g hg).1)
   clear i6 RU r8 OH OI;go_wp2_with (first
    | (refine fR rfl (.tmp 11) rfl w3.heap.size rfl kd dt tg tm X4.o ?_)
    | (refine vP (by rfl) (.tmp 38) rfl r kd dt tg tm rfl ?_)
    | (at_builtin;refine wpList_append_run rfl (.tmp 35) (.tmp 39) 139 139 rfl ⟨_,_,R5.o,?_⟩))
   go_roundw
   case rel=>exact ⟨k+1,m+1,c5,A5,by go_num,by omega,rfl,by omega,(by rw [OG.o];exact DV),E5,B5⟩
   case measure=>simp [intOf];omega
 obtain rfl:k=n:=by omega
 have HF:Hid (inL (L.take k) root=inL L root):=by show _=_;rw [List.take_of_length_le (by rw [HN.o];omega)]
 go_wp2;go_ret;exact ⟨_,rfl,(by rw [<-HF.o];exact HE.o.mono B1.o.size),B1.o.trans (HB.o.mono B1.o.size)⟩
open Go.RowKit
def yY (ops:Array Oper):Bool:=ops.all fun o=>match o.op with | .defer _=>false | _=>true
def Zi {ops:Array Oper} (h:yY ops=true) {i:Nat} {o:Oper} (ho:ops[i]? = some o):∀c,o.op≠.defer c:=by
 intro c hc;have:=Array.all_eq_true.1 h i (Array.getElem?_eq_some_iff.1 ho).1;rw [(Array.getElem?_eq_some_iff.1 ho).2,hc] at this
 cases this
def zV (l n:Nat):(Fence.wide.inRound l).depth.isSome=true->1<=n:=by intro h;cases h
def Jd {l n:Nat} {P:Program} {o:Oper} {a:Act} {w:World} {K:Act->World->Prop} {Q:Exit->Act->World->Prop} (hd:∀c,o.op≠.defer c) (h:o.wp P a w K Q):o.wpIn (Fence.wide.inRound l) n P a w K Q:=by
 unfold Oper.wpIn;refine ⟨fun _ _=>trivial,?_⟩;rw [Oper.semAt_eq _ _ _ hd];unfold Oper.wp at h;revert h;generalize (execOp a.eval o).run P w=r;intro h
 cases r with
 | ok x w' =>
  cases x with
  | value v=>exact h
  | skip=>exact h
  | defer d=>exact h
  | enter f args=>exact ⟨zV l n,CallsIn.inRound l (callsIn_wide.2 h)⟩
  | row row args=>exact ⟨zV l n,fun c cs _=>let ⟨v,w2,r,s⟩:=h c cs;⟨v,w2,r,stepsIn_wide.2 s⟩⟩
  | round l f tmps assign body=>exact h.elim
  | _=>exact h.elim
 | halt x w' =>
  cases x with
  | panic v=>exact h
  | _=>exact h.elim
def fQ (Q:Exit->Act->World->Prop):Exit->Act->World->Prop
 | .normal,a,w=>Q .normal a w
 | _,_,_=>False
instance {Q:Exit->Act->World->Prop}:PQ (fQ Q):=⟨fun _ _ _ _ h=>h⟩
def fQ.normal {Q:Exit->Act->World->Prop} {a:Act} {w:World} (h:Q .normal a w):fQ Q .normal a w:=h
def fQ.imp {Q:Exit->Act->World->Prop}:∀(e:Exit) (a:Act) (w:World),fQ Q e a w->Q e a w:=fun e a w h=>by
 cases e<;>first | exact h | exact h.elim
def Zg {Q:Exit->Act->World->Prop}:¬LetsOut (fQ Q):=by
 rintro ⟨a,w,h⟩;exact h
def nY {l n:Nat} {P:Program} {md:Region.Mode} {ops:Array Oper} {Q:Exit->Act->World->Prop} (hd:yY ops=true):∀(fuel:Nat) (listed:Array Bool) (a:Act) (w:World),
 wpAny P md ops (fQ Q) fuel listed a w->wpAnyIn (Fence.wide.inRound l) n P md ops (fQ Q) fuel listed a w
 | 0,_,_,_,h=>h
 | fuel+1,listed,a,w,h=>⟨h.1,fun i hi=>by
  have h2:=h.2 i hi;unfold wpOp at h2;unfold wpOpIn
  cases ho:ops[i]? with
  | none=>rw [ho] at h2;exact nY hd fuel _ _ _ h2
  | some o =>
   rw [ho] at h2;simp only at h2 ⊢;split
   . rename_i hw
     rw [if_pos hw] at h2;rcases h2 with k | k
     . exact Oper.wpIn_mono (fun a w h=>nY hd fuel _ a w h) (Jd (Zi hd ho) k)
     exact absurd k.2 Zg
   rename_i hw
   rw [if_neg hw] at h2;exact ⟨fun _ _=>trivial,nY hd fuel _ _ _ h2⟩⟩
def rX {l n:Nat} {P:Program} {id:Nat} {ops:Array Oper} {Q:Exit->Act->World->Prop} {a:Act} {w:World} {S:World->Prop} (hm:P.follows .mixedOrders=true) (hd:yY ops=true) (hS:S w.drew)
 (h:S w.drew->wpAnyH P .any ops (fQ Q) S ops.size (Array.replicate ops.size false) a w.drew):(Code.region id ops true).wpIn (Fence.wide.inRound l) n P Q a w :=
 wpIn_mono (wpIn_region_any hm (nY hd _ _ _ _ (wpAny_of_held _ _ _ _ (h hS)))) fQ.imp
section
variable {F:Fence} {n:Nat} {P:Program} {ops:Array Oper} {rest:List Oper} {o:Oper} {a:Act} {w:World} {Q:Exit->Act->World->Prop}
theorem sU (hw:Region.wanted o (yielded ops a.tmps)=true) (hd:∀c,o.op≠.defer c) (om:o.about P w a.eval=none) (v:Value) (w':World) (hr:(execOp a.eval o).run P w=.ok (.value v) w') (h:wpListIn F n P ops Q rest (a.put o.dst v) w'):wpListIn F n P ops Q (o :: rest) a w :=
 BigFrame.wpListIn_want hw fun K hK=>by
  unfold Oper.wpIn;refine ⟨fun f hf=>(by rw [om] at hf;cases hf),?_⟩;rw [Oper.semAt_eq _ _ _ hd,hr];exact hK _ _ h
theorem gX (hw:Region.wanted o (yielded ops a.tmps)=true) (ty:TypeId) (x:Operand) (ho:o.op=.load ty x) (g off:Nat) (hx:a.eval x=.pointer (some ⟨g,off,none⟩)) (cs:Array Value) (hl:(loadVar ty ⟨g,off,none⟩).run P w=.ok (.agg cs) w)
 (h:wpListIn F n P ops Q rest (a.put o.dst (.agg cs)) w):wpListIn F n P ops Q (o :: rest) a w:=by
 refine sU hw (by rw [ho];intro c hc;cases hc) (by simp [Oper.about,ho]) (.agg cs) w ?_ h;unfold execOp;simp only [ho,hx,Instr.loadAt,Instr.sureAddr,Sem.run_bind,Sem.run_pure,Result.andThen_ok,hl]
theorem eX (O6:o.guard=none) (s x:Operand) (t tn:TypeId) (ho:o.op=.call { callee:=.builtin .append,args:=#[s,x],argTypes:=#[t,tn] })
 (h:∃v' w',(Builtin.append_ #[t,tn] o.type #[a.eval s,a.eval x]).run P w=.ok v' w'/\wpListIn F n P ops Q rest (a.put o.dst v') w'):wpListIn F n P ops Q (o :: rest) a w:=by
 obtain ⟨v',w',hr,h⟩:=h;refine sU (by simp [Region.wanted,O6]) (by rw [ho];intro c hc;cases hc) (by simp [Oper.about,ho,resolve,Target.leads,Sem.run_pure]) v' w' ?_ h;unfold execOp;simp only [ho,resolve,invoke,builtin,Sem.run_bind,Sem.run_pure,Result.andThen_ok,List.map_toArray,List.map_cons,List.map_nil,hr]
end
open Go.RowKit Go.Maps
def rJ (x p:By):((ba x).toList == (ba p).toList)=decide (x=p):=by
 rw [aP,aP,aQ,aQ];by_cases h:x=p
 . subst h;simp
 rw [decide_eq_false h];simpa using h
def jx (L:Tr) (p:By) (r:Int):Prop:=(r = -1/\look L p=none)∨∃i,i < L.length/\r=(i:Int)/\look L p=some (L.getD i at0).2
def zC {L:Tr} {p:By} {k:Nat} (h:∀x∈L.take k,x.1≠p):look L p=look (L.drop k) p:=by
 induction L generalizing k with
 | nil=>simp
 | cons x L ih =>
  cases k with
  | zero=>rfl
  | succ k =>
   obtain ⟨q,n⟩:=x;rw [look,if_neg (h (q,n) (by simp)),List.drop_succ_cons];exact ih fun y hy=>h y (by simp [hy])
def oD {L:Tr} {p:By} {k:Nat} (hk:k < L.length) (h:∀x∈L.take k,x.1≠p) (hn:(L.getD k at0).1≠p):∀x∈L.take (k+1),x.1≠p:=by
 rw [rB hk];intro x hx;rcases List.mem_append.1 hx with e | e
 . exact h x e
 rw [List.mem_singleton] at e;rw [e];exact hn
def sI {w:World} {t:Nat} {L:Tr} {room:Nat} (h:TreeR w t L room) (p:By) (hl:L.length<=100000) :
 qC 110 #[.pointer (some ⟨t,0,none⟩),kS p] w fun e w'=>∃r,e=.returned (.int .i64 r)/\jx L p r/\w=w':=by
 obtain ⟨A,n,c,hv⟩:=h.view;have c0:=hv.c0;have HL:=hid hv.len;have HR:=hid hv.row;have hn:n<=100000:=by rw [<-hv.len];exact hl
 clear h hv hl;go_enter Tryz.func110,Tryz.ntmps110
 go_wp2;go_loopw [5] (fun v5 wr=>∃k:Nat,v5=.int .i64 (k:Int)/\k<=n/\Hid (∀x∈L.take k,x.1≠p)/\wr=w) (fun v5 _=>n - (intOf v5).toNat)
 case atStart=>exact ⟨0,rfl,by omega,by intro x hx;simp at hx,rfl⟩
 obtain ⟨k,rfl,hk,J1,rfl⟩:=hrel;by_cases d8:k < n
 .
  obtain ⟨g,hA,I9⟩:=HR.o (by omega);subst hA;have o3:k < L.length:=by rw [HL.o];exact d8
  have ha:=I9 k d8;have d0:=ha.c0;have HN:=hid (fun e=>oD o3 J1.o e);have HF:Hid ((L.getD k at0).1=p->look L p=some (L.getD k at0).2):=fun e=>by
   rw [zC J1.o,Qn o3];exact if_pos e
  have HK:=hid o3;obtain ⟨x,hx⟩:∃x,x=L.getD k at0:=⟨_,rfl⟩;rw [<-hx] at HN HF d0;have ni:(k:Int) < (n:Int):=by omega
  have h0:(0:Int)<=(k:Int):=by omega
  have w1:IntKind.i64.wrap ((k:Int)+1)=(k:Int)+1:=aM _ (by omega) (by omega);have HX:=hid hx;by_cases Q7:x.1=p
  .
   have q:((ba x.1).toList == (ba p).toList)=true:=by rw [rJ,decide_eq_true Q7]
   have VA:=hid Q7;clear Q7 hx ha o3 I9;go_wp2;go_ret;exact ⟨_,rfl,.inr ⟨k,HK.o,rfl,by rw [HF.o VA.o,HX.o]⟩,rfl⟩
  have q:((ba x.1).toList == (ba p).toList)=false:=by rw [rJ,decide_eq_false Q7]
  have VA:=hid Q7;clear Q7 hx ha o3 I9;go_wp2;go_roundw
  case rel=>exact ⟨k+1,by go_num,by omega,HN.o VA.o,trivial⟩
  case measure=>simp [intOf];omega
 have HE:Hid (look L p=none):=by
  show _=_
  rw [zC J1.o,List.drop_of_length_le (by rw [HL.o];omega)];rfl
 go_wp2;go_ret;exact ⟨_,rfl,.inl ⟨rfl,HE.o⟩,rfl⟩
def lW {w:World} {t:Nat} {L:Tr} {room:Nat} (h:TreeR w t L room) (p:By) (hl:L.length<=100000) :
 qC 112 #[.pointer (some ⟨t,0,none⟩),kS p] w fun e w'=>e=.returned (.int .i64 (kindP L p))/\w=w':=by
 have C1:=hid (sI h p hl);obtain ⟨A,n,c,hv⟩:=h.view;have HV:=hid hv;by_cases hp:p=[]
 .
  have z1:(ba p).toList=[]:=by rw [aP,aQ,hp]
  have HK:Hid (kindP L p=2):=by show _=_;unfold kindP;rw [if_pos hp]
  clear hv h hp hl;go_enter Tryz.func112,Tryz.ntmps112
  go_wp2;go_ret;exact ⟨by rw [HK.o];rfl,rfl⟩
 have z1:¬(ba p).toList=[]:=by rw [aP,aQ];exact hp
 have z2:(ba p).toList.isEmpty=false:=by simpa using z1
 have HK:Hid (kindP L p=match look L p with | some n=>n.kind | none=>0):=by show _=_;unfold kindP;rw [if_neg hp];cases look L p<;>rfl
 clear hv h hp hl;go_enter Tryz.func112,Tryz.ntmps112
 go_wp2_with fail
 refine C1.o.mono ?_;rintro e1 w1 ⟨r,rfl,hf,rfl⟩;rcases hf with ⟨rfl,hl⟩ | ⟨i,hi,rfl,hl⟩
 .
  have V4:Hid (kindP L p=0):=by show _=_;rw [HK.o,hl]
  clear hl;go_wp2;go_ret;exact ⟨by rw [V4.o];rfl,rfl⟩
 have V4:Hid (kindP L p=(L.getD i at0).2.kind):=by show _=_;rw [HK.o,hl]
 have yo:i < n:=by rw [<-HV.o.len];exact hi
 obtain ⟨g,hA,I9⟩:=HV.o.row (by omega);subst hA;have c0:=HV.o.c0;have d1:=(I9 i yo).c1;have ni:(i:Int) < (n:Int):=by omega
 have h0:(0:Int)<=(i:Int):=by omega
 have h1:¬(i:Int) < 0:=by omega
 clear hl I9 hi;go_wp2;go_ret;exact ⟨by rw [V4.o];rfl,rfl⟩
def sV (p:By) (hp:p.length<=4000) (w:World):qC 113 #[kS p] w fun e w'=>e=.returned (kS (kZ p).1)/\qW w w':=by
 have C1:=hid (Rf.Gr (ba p) w (by rw [aD];exact hp));rw [aQ] at C1;clear hp;go_enter Tryz.func113,Tryz.ntmps113
 go_wp2_with fail
 refine C1.o.mono ?_;rintro e1 w1 ⟨rfl,hb⟩;have B1:=hid hb;clear hb;go_wp2;go_ret;exact ⟨rfl,B1.o⟩
def Qs {room:Nat} {L:Tr} (h:WFT room L) (p:By):cI L p=if kindP L (aheadL p)=0 then 5 else if kindP L (aheadL p)=2 then 0 else 12:=by
 unfold cI dW;by_cases h2:kindP L (aheadL p)=2
 . rw [if_pos h2,h2];rfl
 rw [if_neg h2,if_neg h2];unfold kindP at h2 ⊢;by_cases h0:aheadL p=[]
 . rw [if_pos h0] at h2;exact absurd rfl h2
 rw [if_neg h0] at h2 ⊢
 cases hl:look L (aheadL p) with
 | none=>rfl
 | some n =>
  have hk:=h.kind _ n hl;rw [hl] at h2;simp only at h2 ⊢;have CJ:n.kind≠0:=by rcases hk with e | e | e<;>rw [e]<;>decide
  rw [if_neg CJ];rfl
def tG {w:World} {t:Nat} {L:Tr} {room:Nat} (h:TreeR w t L room) (hW:WFT room L) (p:By) (hm:mayB p=true) (hp:p.length<=4000) (hl:L.length<=100000) :
 qC 132 #[.pointer (some ⟨t,0,none⟩),kS p] w fun e w'=>e=.returned (.int .i64 (cI L p))/\qW w w':=by
 have C1:Hid (qC 113 #[kS p] w fun e w'=>e=.returned (kS (aheadL p))/\qW w w'):=by
  have:=sV p hp w;rw [iT hm] at this;exact this
 have C2:Hid (∀W,qW w W->qC 112 #[.pointer (some ⟨t,0,none⟩),kS (aheadL p)] W fun e w'=>e=.returned (.int .i64 (kindP L (aheadL p)))/\W=w'):=fun W hb=>lW (h.on hb) _ hl
 have HH:=hid (Qs hW p);obtain ⟨k,HK⟩:=qX (kindP L (aheadL p));rw [HK.o] at C2 HH;clear h hW hm hp hl;go_enter Tryz.func132,Tryz.ntmps132
 go_wp2_with fail
 refine C1.o.mono ?_;rintro e1 w1 ⟨rfl,hb⟩;have B1:=hid hb;clear hb;go_wp2_with fail
 refine (C2.o _ B1.o).mono ?_;rintro e2 w2 ⟨rfl,rfl⟩;by_cases h0:k=0
 .
  have q0:(k == 0)=true:=by simpa using h0
  have HE:Hid (cI L p=5):=by show _=_;rw [HH.o,if_pos h0]
  clear h0;go_wp2;go_ret;exact ⟨by rw [HE.o];rfl,B1.o⟩
 have q0:(k == 0)=false:=by simpa using h0
 by_cases h2:k=2
 .
  have q2:(k != 2)=false:=by simp [h2]
  have HE:Hid (cI L p=0):=by show _=_;rw [HH.o,if_neg h0,if_pos h2]
  clear h0 h2;go_wp2;go_ret;exact ⟨by rw [HE.o];rfl,B1.o⟩
 have q2:(k != 2)=true:=by simpa using h2
 have HE:Hid (cI L p=12):=by show _=_;rw [HH.o,if_neg h0,if_neg h2]
 clear h0 h2;go_wp2;go_ret;exact ⟨by rw [HE.o];rfl,B1.o⟩
def nX {w:World} {t:Nat} {L:Tr} {room:Nat} (h:TreeR w t L room) (hu:usedL L<=1000000000) :
 qC 18 #[.pointer (some ⟨t,0,none⟩)] w fun e w'=>e=.returned (.int .i64 ((usedL L:Nat):Int))/\w=w':=by
 obtain ⟨A,n,c,hv⟩:=h.view;have c0:=hv.c0;have HL:=hid hv.len;have HR:=hid hv.row;have hn:n<=1000000000:=by
  rw [<-hv.len];have h1:=jZ (L:=L);omega
 have HU:=hid hu;clear h hv hu;go_enter Tryz.func18,Tryz.ntmps18
 go_wp2;go_loopw [3,4] (fun v3 v4 wr=>∃k:Nat,v3=.int .i64 ((usedL (L.take k):Nat):Int)/\v4=.int .i64 (k:Int)/\k<=n/\wr=w) (fun _ v4 _=>n - (intOf v4).toNat)
 case atStart=>exact ⟨0,rfl,rfl,by omega,rfl⟩
 obtain ⟨k,rfl,rfl,hk,rfl⟩:=hrel;by_cases d8:k < n
 .
  obtain ⟨g,hA,I9⟩:=HR.o (by omega);subst hA;have o3:k < L.length:=by rw [HL.o];exact d8
  have ha:=I9 k d8;have d2:=ha.c2;have OJ:=Kg o3;have p5:usedL (L.take (k+1))<=1000000000:=Nat.le_trans (Dp L _) HU.o;obtain ⟨d,hd⟩:∃d,d=(L.getD k at0).2.data:=⟨_,rfl⟩;rw [<-hd] at OJ d2;obtain ⟨u,IT⟩:=qX (usedL (L.take k));rw [IT.o] at OJ ⊢;have RV:Hid (usedL (L.take (k+1))=u+(64+d.length)):=OJ;have hub:u+64+d.length<=1000000000:=by rw [OJ] at p5;omega
  have ni:(k:Int) < (n:Int):=by omega
  have h0:(0:Int)<=(k:Int):=by omega
  have w1:IntKind.i64.wrap ((k:Int)+1)=(k:Int)+1:=aM _ (by omega) (by omega);have w2:IntKind.i64.wrap ((u:Int)+64)=(u:Int)+64:=aM _ (by omega) (by omega);have w3:IntKind.i64.wrap ((u:Int)+64+(d.length:Int))=(u:Int)+64+(d.length:Int):=aM _ (by omega) (by omega);have zd:(ba d).size=d.length:=aD d;clear OJ p5 hd ha o3 I9;go_wp2;go_roundw
  case rel=>exact ⟨k+1,by rw [RV.o];go_num,by go_num,by omega,trivial⟩
  case measure=>simp [intOf];omega
 have HE:Hid (usedL (L.take k)=usedL L):=by show _=_;rw [List.take_of_length_le (by rw [HL.o];omega)]
 rw [HE.o];go_wp2;go_ret;exact ⟨rfl,rfl⟩
open Go.RowKit Go.Maps
structure cP (w0 wr:World) (o room:Nat) (K:Tr) (v:Value):Prop where
 has:Has wr o 131 #[v,.int .i64 (room:Int)]
 row:dR (o+1) wr v K
 bl:qW w0 wr
 io:w0.heap.size<=o
def cP.start (w:World) (room:Nat):cP w (w.alloc (.cells #[.slice none 0 0,.int .i64 (room:Int)] 131)) w.heap.size room [] (.slice none 0 0) :=
 ⟨Has.fresh _ _ _,dR.nil _ _,qB.alloc qN _,Nat.le_refl _⟩
def cP.drew {w0 wr:World} {o room:Nat} {K:Tr} {v:Value} (h:cP w0 wr o room K v):cP w0 wr.drew o room K v:=⟨h.has,h.row,h.bl.drew,h.io⟩
def cP.tree {w0 wr:World} {o room:Nat} {K:Tr} {v:Value} (h:cP w0 wr o room K v):gN w0.heap.size wr o K room:=⟨⟨v,h.has,h.row.mono (by have:=h.io;omega)⟩,h.io⟩
def cP.app {w0 wr:World} {o room:Nat} {K:Tr} {v:Value} (h:cP w0 wr o room K v) (x:At) (hn:K.length<=100000) :
 ∃v' w',(Builtin.append_ #[64,64] 64 #[v,.slice (some ⟨wr.heap.size,0,none⟩) 1 1]).run Tryz.prog (wr.alloc (.cells (atCells x) 73))=.ok v' w'/\cP w0 (w'.setCell ⟨o,0,none⟩ v') o room (K++[x]) v'/\Has w' o 131 #[v,.int .i64 (room:Int)]/\qW w0 w'/\∃A c,v'=.slice A (K.length+1) c:=by
 have hb:qW wr (wr.alloc (.cells (atCells x) 73)):=qB.alloc qN _;have ho:=h.has.inside;obtain ⟨v',w',k1,k2,k3⟩:=zY _ (o+1) v K (h.row.on hb) x wr.heap.size (Has.fresh wr 73 _) hn (by have:=hb.size;omega) 64;have a9:Below (o+1) wr w':=(hb.mono (by omega)).grown k3 (by have:=hb.size;omega) (fun g hg=>(World.ownsRow.lt h.row g hg).1);have hh:Has w' o 131 #[v,.int .i64 (room:Int)]:=h.has.kept a9 (Nat.lt_succ_self _);have yq:qW w0 w':=h.bl.trans (a9.mono (by have:=h.io;omega));obtain ⟨A,c,rfl⟩:=k2.form;refine ⟨_,w',k1,⟨hh.put 0 _,row_of k2 fun g hg=>?_,yq.setCell h.io _,h.io⟩,hh,yq,A,c,by rw [List.length_append];rfl⟩;have:=(World.ownsRow.lt k2 g hg).1;exact Below.heap_setCell w' ⟨o,0,none⟩ _ g (by show g≠o;omega)
def Mx (w:World) (K:Tr) (room:Nat) (e:Ending) (w':World):Prop:=∃o,e=.returned (.pointer (some ⟨o,0,none⟩))/\gN w.heap.size w' o K room/\qW w w'
def Vs (x:At) (L:Tr) (p:By):del (x :: L) p=if x.1=p then del L p else x :: del L p:=by
 unfold del;by_cases h:x.1=p
 . simp [h]
 simp [h]
structure rM (t:Nat) (A:Option Addr) (n c g k:Nat) (x:At) (W:World):Prop where
 c0:W.cell? ⟨t,0,none⟩=some (.slice A n c)
 at_:AtAt W g (k*5) x
structure wJ (b:Nat) (cs:Array Value) (W:World):Prop where
 h:Has W b 71 cs
def wJ.on {b:Nat} {cs:Array Value} {W W':World} (h:wJ b cs W) (hb:qW W W'):wJ b cs W':=⟨h.h.kept hb h.h.inside⟩
def rM.on {t:Nat} {A:Option Addr} {n c g k:Nat} {x:At} {W W':World} (h:rM t A n c g k x W) (hb:qW W W'):rM t A n c g k x W' :=
 ⟨(hb.cell (p:=⟨t,0,none⟩) (block_lt_of_cell (a:=⟨t,0,none⟩) h.c0)).trans h.c0,h.at_.on hb⟩
end Go.Proofs.YtahkcemdbfjilaaGreatDoor
