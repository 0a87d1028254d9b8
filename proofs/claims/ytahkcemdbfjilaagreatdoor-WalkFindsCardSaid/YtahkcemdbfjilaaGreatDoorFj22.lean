/- Texts. Conditions: as said. -/
import Derived.Test.YtahkcemdbfjilaaGreatDoorFj00
import Derived.Test.YtahkcemdbfjilaaGreatDoorFj21
set_option linter.all false
set_option maxRecDepth 100000
set_option maxHeartbeats 32000000
namespace Go.Proofs.YtahkcemdbfjilaaGreatDoor
def rQ:List bS:=[⟨2,[102,49,47,100,47,101],[],0,0⟩,⟨1,[102,49,47,97],[97,98,99],3,5⟩,⟨1,[102,49,47,100,47,126,116,126,120],[],0,0⟩,⟨1,[102,49,47,100,47,101,47,121],[121],5000,0⟩,⟨3,[102,49,47,122],[97],0,6⟩]
def tW:By:=[102,49]
def gY:By:=[102,49,47,100,47,101,47,121]
def Ii:Tr:=[([102,49],⟨2,[],[],0⟩),([102,49,47,97],⟨1,[97,98,99],[],5⟩),([102,49,47,100],⟨2,[],[],0⟩),([102,49,47,100,47,101],⟨2,[],[],0⟩),([102,49,47,100,47,126,116,126,120],⟨1,[],[],0⟩)]
def rW (D:By):Tr:=[([102,49],⟨2,[],[],0⟩),([102,49,47,97],⟨1,[97,98,99],[],5⟩),([102,49,47,100],⟨2,[],[],0⟩),([102,49,47,100,47,101],⟨2,[],[],0⟩),([102,49,47,100,47,101,47,121],⟨1,D,[],0⟩),([102,49,47,100,47,126,116,126,120],⟨1,[],[],0⟩)]
def gT (D:By):Tr:=rW D++[([102,49,47,122],⟨3,[],[97],6⟩)]
structure Sx (M:Mo) (T:Tr):Prop where
 now:M.now=T
 fuse:M.fuse = -1
 room:M.room=262144
def Sx.same {M:Mo} {T:Tr} (h:Sx M T) {y:Eff} {c:Int} (hc:c≠0) (he:(aK 262144 T y).1=c):Sx (bL M y).2 T:=by
 unfold bL;rw [if_neg (by rw [h.fuse];decide),h.now,h.room,if_neg (by rw [he];exact hc)];exact h
def Sx.next {M:Mo} {T T':Tr} (h:Sx M T) {y:Eff} (he:aK 262144 T y=(0,T')):Sx (bL M y).2 T':=by
 unfold bL;rw [if_neg (by rw [h.fuse];decide),h.now,h.room,he,if_pos rfl];exact ⟨rfl,by show eM M.fuse = -1;rw [h.fuse];rfl,rfl⟩
def g3:Sx (cN (rQ.take 3)) Ii:=⟨by decide +kernel,by decide +kernel,by decide +kernel⟩
def gW (D:By) (hD:D.length=5000):aK 262144 Ii (.write gY D 0)=(0,rW D):=by
 have e:aK 262144 Ii (.write gY D 0)=cK 262144 Ii gY ⟨1,D,[],0⟩:=by rfl
 have e2:usedL Ii=323:=by decide +kernel
 have e3:bA gY ⟨1,D,[],0⟩ Ii=rW D:=by rfl
 rw [e];unfold cK;rw [if_pos (by rw [e2];unfold jI;dsimp only;rw [hD];omega),e3]
def gL (D:By) (hD:D.length=5000):aK 262144 (rW D) (.link [102,49,47,122] [97] 6)=(0,gT D):=by
 have e:aK 262144 (rW D) (.link [102,49,47,122] [97] 6)=cK 262144 (rW D) [102,49,47,122] ⟨3,[],[97],6⟩:=by rfl
 have e2:usedL (rW D)=323+5064:=by
  unfold rW;simp only [usedL,jI,hD,List.length_nil,List.length_cons]
 have e3:bA [102,49,47,122] ⟨3,[],[97],6⟩ (rW D)=gT D:=by rfl
 rw [e];unfold cK;rw [if_pos (by rw [e2];unfold jI;simp;omega),e3]
def jv:(waysL gY).dropLast=[[102,49],[102,49,47,100],[102,49,47,100,47,101]]:=by decide +kernel
def ju:(waysL [102,49,47,122]).dropLast=[[102,49]]:=by decide +kernel
def g4 (D:By) (hD:D=wP ⟨1,gY,[121],5000,0⟩) (hl:D.length=5000):Sx (cN rQ) (gT D):=by
 have h3:=g3;have e:cN rQ=iN (iN (cN (rQ.take 3)) ⟨1,gY,[121],5000,0⟩) ⟨3,[102,49,47,122],[97],0,6⟩:=rfl;rw [e];generalize cN (rQ.take 3)=M at h3;have h4:Sx (iN M ⟨1,gY,[121],5000,0⟩) (rW D):=by
  unfold iN;have e1:sS ⟨1,gY,[121],5000,0⟩=some (.write gY D 0):=by unfold sS;rw [if_pos rfl,hD]
  rw [e1];show Sx (bL (eN M (waysL gY).dropLast) _).2 _
  rw [jv];refine Sx.next ?_ (gW D hl)
  exact Sx.same (c:=6) (Sx.same (c:=6) (Sx.same (c:=6) h3 (by decide) (by decide +kernel)) (by decide) (by decide +kernel)) (by decide) (by decide +kernel)
 generalize iN M ⟨1,gY,[121],5000,0⟩=M4 at h4;unfold iN;show Sx (bL (eN M4 (waysL [102,49,47,122]).dropLast) (.link [102,49,47,122] [97] 6)).2 _
 rw [ju];refine Sx.next ?_ (gL D hl)
 exact Sx.same (c:=6) h4 (by decide) (by rfl)
def Si:(wP ⟨1,gY,[121],5000,0⟩).length=5000:=by
 unfold wP;rw [vB];rfl
def Yl (D:By):Tr:=[([97],⟨1,[97,98,99],[],5⟩),([100],⟨2,[],[],0⟩),([100,47,101],⟨2,[],[],0⟩),([100,47,101,47,121],⟨1,D,[],0⟩),([100,47,126,116,126,120],⟨1,[],[],0⟩),([122],⟨3,[],[97],6⟩)]
def ec (D:By):inL (gT D) tW=Yl D:=by rfl
def Cd (D:By):fI (gT D) tW=0:=by rfl
def Es:jD:=⟨[([97],⟨1,[97,98,99],[],5⟩),([100],⟨2,[],[],0⟩),([122],⟨3,[],[97],6⟩)],[[100,47,126,116,126,120]],[[100,47,101]],[]⟩
def eh (D:By):rA (igB (some [[101]])) (Yl D)=Es:=by kernel_rfl
def fl:jD:=⟨[([97],⟨1,[97,98,99],[],5⟩),([100],⟨2,[],[],0⟩),([100,47,101],⟨2,[],[],0⟩),([122],⟨3,[],[97],6⟩)],[[100,47,126,116,126,120]],[],[[100,47,101,47,121]]⟩
def ko:Tr:=[([97],⟨1,[97,98,99],[],5⟩),([100],⟨2,[],[],0⟩),([100,47,101],⟨2,[],[],0⟩)]
def fc (D:By) (hl:D.length=5000):rA (igB none) (Yl D)=fl:=by
 have hb:eT ⟨1,D,[],0⟩=true:=by unfold eT;dsimp only;rw [hl];rfl
 have e:rA (igB none) (Yl D)=([([100,47,126,116,126,120],⟨1,[],[],0⟩),([122],⟨3,[],[97],6⟩)].foldl (stepW (igB none)) (stepW (igB none) (⟨ko,[],[],[]⟩,[]) ([100,47,101,47,121],⟨1,D,[],0⟩))).1:=by kernel_rfl
 rw [e,vW (by decide +kernel) (by decide +kernel) (by decide +kernel) hb];show ([([100,47,126,116,126,120],⟨1,[],[],0⟩),([122],⟨3,[],[97],6⟩)].foldl (stepW (igB none)) (⟨ko,[],[],[]++[[100,47,101,47,121]]⟩,[])).1=fl
 kernel_rfl
open Go.RowKit Go.Maps
def jr:Glob.readL [([105],[101])] 4 [] [105] []=.ok [[101]]:=Glob.al (by decide +kernel)
def gv (w:World) (hG:Gd w):qC 27 #[.string ⟨#[101]⟩] w fun e w'=>∃v,e=.returned v/\rL w' v (some [[101]])/\qW w w':=by
 have C:Hid (qC 11 #[.slice (some ⟨w.heap.size,0,none⟩) 1 1,.string ⟨#[105]⟩] (w.alloc (.cells #[.string ⟨#[105]⟩,.string ⟨#[101]⟩] 91)) fun e W=>∃L,e=.returned (.tuple #[.pointer (some ⟨L,0,none⟩),.int .i64 0])/\rL W (.pointer (some ⟨L,0,none⟩)) (some [[101]])/\qW w W):=by
  refine (Glob.Rz [105] [101] [105] w hG (by decide) (by decide) (by decide)).mono ?_;rintro e W ⟨h1,h2⟩;unfold Glob.kD at h1;rw [jr] at h1;obtain ⟨L,a1,_,a3,a4⟩:=h1;exact ⟨L,a1,.some _ L _ a3 a4,h2⟩
 clear hG;go_enter Tryz.func27,Tryz.ntmps27
 go_wp2_with (go_at_call 11;refine C.o.mono ?_;rintro e1 w1 ⟨L,rfl,hl,hb⟩;have HL:=hid hl;have HB:=hid hb;clear hl hb)
 go_ret;exact ⟨_,rfl,HL.o,HB.o⟩
def xC:Array Value:=#[.int .i64 2,.string ⟨#[102,49,47,100,47,101]⟩,.string ⟨#[]⟩,.int .i64 0,.int .i64 0,.int .i64 1,.string ⟨#[102,49,47,97]⟩,.string ⟨#[97,98,99]⟩,.int .i64 3,.int .i64 5,.int .i64 1,.string ⟨#[102,49,47,100,47,126,116,126,120]⟩,.string ⟨#[]⟩,.int .i64 0,.int .i64 0,.int .i64 1,.string ⟨#[102,49,47,100,47,101,47,121]⟩,.string ⟨#[121]⟩,.int .i64 5000,.int .i64 0,.int .i64 3,.string ⟨#[102,49,47,122]⟩,.string ⟨#[97]⟩,.int .i64 0,.int .i64 6]
def gh {w:World} {g:Nat} (h:Has w g 89 xC):mA w (some ⟨g,0,none⟩) 5 g 0 rQ where
 len:=rfl
 src:=fun _=>⟨rfl,h.inside⟩
 at_:=fun i hi=>by
  match i,hi with
  | 0,_=>exact ⟨h.at_ 0,h.at_ 1,h.at_ 2,h.at_ 3,h.at_ 4⟩
  | 1,_=>exact ⟨h.at_ 5,h.at_ 6,h.at_ 7,h.at_ 8,h.at_ 9⟩
  | 2,_=>exact ⟨h.at_ 10,h.at_ 11,h.at_ 12,h.at_ 13,h.at_ 14⟩
  | 3,_=>exact ⟨h.at_ 15,h.at_ 16,h.at_ 17,h.at_ 18,h.at_ 19⟩
  | 4,_=>exact ⟨h.at_ 20,h.at_ 21,h.at_ 22,h.at_ 23,h.at_ 24⟩
  | i+5,hi=>omega
 ok:=fun x hx=>by
  simp only [rQ,List.mem_cons,List.not_mem_nil,or_false] at hx;rcases hx with rfl | rfl | rfl | rfl | rfl<;>exact ⟨by simp,by simp,by decide,by decide⟩
def Re (w:World) (hG:Gd w):qC 26 #[] w fun e w'=>∃p,e=.returned (.pointer (some ⟨p,0,none⟩))/\Lv w w' [.d p (cN rQ)]:=by
 have hb:qW w (w.alloc (.cells xC 89)):=qB.alloc qN _;have HB:=hid hb;have C:=hid (Dl (cap:=5) (w.alloc (.cells xC 89)) (gh (Has.fresh w 89 xC)) (hG.kept hb) (by omega) (fun x hx=>by
  simp only [rQ,List.mem_cons,List.not_mem_nil,or_false] at hx;rcases hx with rfl | rfl | rfl | rfl | rfl<;>exact ⟨by simp,by simp⟩))
 clear hG hb;go_enter Tryz.func26,Tryz.ntmps26
 go_wp2_with fail
 refine C.o.mono ?_;rintro e1 w1 ⟨p,q,rfl,hl⟩;have HL:=hid hl;clear hl;go_wp2;go_ret;exact ⟨p,rfl,(HL.o.swap.drop).ahead HB.o⟩
def DG.of {L:Tr} (h:∀x∈L,x.2.kind≠1->x.2.data=[]):DG L:=by
 intro p n hp hk;induction L with
 | nil=>cases hp
 | cons a L ih =>
  obtain ⟨q,m⟩:=a;rw [look] at hp;split at hp
  . injection hp with hp;subst hp;exact h _ List.mem_cons_self hk
  exact ih (fun x hx=>h x (List.mem_cons_of_mem _ hx)) hp
def lw (D:By):DG (gT D):=DG.of fun x hx hk=>by
 simp only [gT,rW,List.cons_append,List.nil_append,List.mem_cons,List.not_mem_nil,or_false] at hx;rcases hx with rfl | rfl | rfl | rfl | rfl | rfl | rfl
 . rfl
 . exact absurd rfl hk
 . rfl
 . rfl
 . exact absurd rfl hk
 . exact absurd rfl hk
 rfl
structure lp (M:Mo):Prop where
 dg:DG M.now
 root:fI M.now tW=0
 f1:gC (some [[101]]) M.now tW=Es
 f2:gC none M.now tW=fl
def lk:lp (cN rQ):=by
 have h:=g4 _ rfl Si;have hl:=Si;generalize wP ⟨1,gY,[121],5000,0⟩=D at h hl;have e:=h.now;refine ⟨by rw [e];exact lw D,by rw [e];exact Cd D,?_,?_⟩
 . unfold gC;rw [e,Cd D,if_pos rfl,ec D];exact eh D
 unfold gC;rw [e,Cd D,if_pos rfl,ec D];exact fc D hl
def join_one {B:Nat} {w:World} {g c:Nat} {p:By} (h:StrR B w (.slice (some ⟨g,0,none⟩) 1 c) [p]) (hp:p.length<=4000) :
 qC 29 #[.slice (some ⟨g,0,none⟩) 1 c,.string ⟨#[32]⟩] w fun e w'=>e=.returned (kS p)/\qW w w':=by
 obtain ⟨g',c',e,hg,hc⟩:=pE h (by simp);injection e with e1 _ e3;injection e1 with e1;injection e1 with e1 _ _;subst e1 e3;have h1:1<=c:=by
  rcases h.2 with ⟨k,_⟩ | ⟨g2,c2,cur,k,_,_,k4,_⟩
  . cases k
  injection k with _ _ k;omega
 have hj:Lib.join ([ba p].map (·.data.toList)) (⟨#[32]⟩:ByteArray).data.toList=p:=by
  show Lib.join [(ba p).data.toList] _=p
  have:(ba p).data.toList=p:=by show (p.toArray).toList=p;simp
  rw [this];simp [Lib.join]
 refine (Tryz.strings_Join g 0 c [ba p] ⟨#[32]⟩ w (fun j x hx=>?_) hg (by simp) (by simpa using h1) (by rw [hj];omega)).mono ?_
 . match j,hx with
   | 0,hx=>simp at hx;subst hx;exact hc 0 (by simp)
   | j+1,hx=>simp at hx
 rintro e w' ⟨rfl,hb⟩;refine ⟨?_,hb⟩;rw [hj];rfl
def Of (w:World) (hG:Gd w) (hT:Sha.Tab w):qC 9 #[] w fun e w'=>e=.returned (.bool true)/\qW w w':=by
 have HG:=hid hG;have HT:=hid hT;have C1:=hid (Re w hG);obtain ⟨M,HM⟩:=qX (cN rQ);have HO:=hid lk;rw [HM.o] at HO C1;clear hG hT;go_enter Tryz.func9,Tryz.ntmps9
 go_wp2_with fail
 refine C1.o.mono ?_;rintro e1 w1 ⟨p,rfl,pp⟩;have L1:=hid pp;have C2:=hid (gv w1 (HG.o.kept pp.bl));clear pp;go_wp2_with fail
 refine C2.o.mono ?_;rintro e2 w2 ⟨v,rfl,hv,a9⟩;have L2:=hid (L1.o.on a9);obtain ⟨own,hD⟩:=L2.o.headD;have C3:=hid (Ec hD (HG.o.kept L2.o.bl) (HT.o.kept L2.o.bl HG.o.pos) HO.o.dg tW v (some [[101]]) hv);rw [HO.o.root,HO.o.f1] at C3;clear a9 hD hv C2;go_wp2_with fail
 refine C3.o.mono ?_;rintro e3 w3 ⟨vi,vs,rfl,hR,hS,i7⟩;have B3:Hid (qW w w3):=L2.o.bl.trans (i7.mono L2.o.bl.size);obtain ⟨A0,c0,rfl⟩:=hR.form;obtain ⟨A1,c1,f1⟩:=(hS 1 (by omega) (by omega)).form;obtain ⟨A2,c2,f2⟩:=(hS 2 (by omega) (by omega)).form;obtain ⟨A3,c3,f3⟩:=(hS 3 (by omega) (by omega)).form;have s1:=hS 1 (by omega) (by omega);have s2:=hS 2 (by omega) (by omega);rw [f1] at s1;rw [f2] at s2;rw [f1,f2,f3];clear f1 f2 f3 hS;obtain ⟨g1,k1,e1,_,_⟩:=pE s1 (by decide);obtain ⟨g2,k2,e2,_,_⟩:=pE s2 (by decide);injection e1 with e1 e1b e1c;injection e2 with e2 e2b e2c;clear e1b e1c e2b e2c k1 k2;subst e1;subst e2;have ui:Hid (cO w2.heap.size w3 (.slice A0 3 c0) Es.items):=hR;have S1:Hid (StrR w2.heap.size w3 (.slice (some ⟨g1,0,none⟩) 1 c1) [[100,47,126,116,126,120]]):=s1;have S2:Hid (StrR w2.heap.size w3 (.slice (some ⟨g2,0,none⟩) 1 c2) [[100,47,101]]):=s2;show _
 have HV:Hid (#[Value.slice A0 3 c0,.slice (some ⟨g1,0,none⟩) 1 c1,.slice (some ⟨g2,0,none⟩) 1 c2,.slice A3 0 c3]=#[Value.slice A0 Es.items.length c0,.slice (some ⟨g1,0,none⟩) (lsOf Es 1).length c1,.slice (some ⟨g2,0,none⟩) (lsOf Es 2).length c2,.slice A3 (lsOf Es 3).length c3]):=rfl;rw [<-HV.o];have b4:qW w3 (w3.alloc (.cells #[Value.slice A0 3 c0,.slice (some ⟨g1,0,none⟩) 1 c1,.slice (some ⟨g2,0,none⟩) 1 c2,.slice A3 0 c3] 39)):=qB.alloc qN _;have F4:Hid (Has (w3.alloc (.cells #[Value.slice A0 3 c0,.slice (some ⟨g1,0,none⟩) 1 c1,.slice (some ⟨g2,0,none⟩) 1 c2,.slice A3 0 c3] 39)) w3.heap.size 39 #[Value.slice A0 3 c0,.slice (some ⟨g1,0,none⟩) 1 c1,.slice (some ⟨g2,0,none⟩) 1 c2,.slice A3 0 c3]):=Has.fresh _ _ _;have B4:Hid (qW w (w3.alloc (.cells #[Value.slice A0 3 c0,.slice (some ⟨g1,0,none⟩) 1 c1,.slice (some ⟨g2,0,none⟩) 1 c2,.slice A3 0 c3] 39))):=B3.o.trans (b4.mono B3.o.size);have CP:Hid (qC 30 #[.slice A0 3 c0] (w3.alloc (.cells #[Value.slice A0 3 c0,.slice (some ⟨g1,0,none⟩) 1 c1,.slice (some ⟨g2,0,none⟩) 1 c2,.slice A3 0 c3] 39)) fun e w'=>e=.returned (.string ⟨#[97,32,100,32,122,32]⟩)/\(w3.alloc (.cells #[Value.slice A0 3 c0,.slice (some ⟨g1,0,none⟩) 1 c1,.slice (some ⟨g2,0,none⟩) 1 c2,.slice A3 0 c3] 39))=w'):=by
  refine (Pa (ui.o.on b4) (by decide) (by decide)).mono ?_;rintro e w' ⟨rfl,rfl⟩;exact ⟨rfl,rfl⟩
 have CJ1:Hid (∀W,Below (w3.alloc (.cells #[Value.slice A0 3 c0,.slice (some ⟨g1,0,none⟩) 1 c1,.slice (some ⟨g2,0,none⟩) 1 c2,.slice A3 0 c3] 39)).heap.size (w3.alloc (.cells #[Value.slice A0 3 c0,.slice (some ⟨g1,0,none⟩) 1 c1,.slice (some ⟨g2,0,none⟩) 1 c2,.slice A3 0 c3] 39)) W->qC 29 #[.slice (some ⟨g1,0,none⟩) 1 c1,.string ⟨#[32]⟩] W fun e w'=>e=.returned (.string ⟨#[100,47,126,116,126,120]⟩)/\qW W w'):=fun W hb=>join_one ((S1.o.on b4).on hb) (by decide)
 have CJ2:Hid (∀W,Below (w3.alloc (.cells #[Value.slice A0 3 c0,.slice (some ⟨g1,0,none⟩) 1 c1,.slice (some ⟨g2,0,none⟩) 1 c2,.slice A3 0 c3] 39)).heap.size (w3.alloc (.cells #[Value.slice A0 3 c0,.slice (some ⟨g1,0,none⟩) 1 c1,.slice (some ⟨g2,0,none⟩) 1 c2,.slice A3 0 c3] 39)) W->qC 29 #[.slice (some ⟨g2,0,none⟩) 1 c2,.string ⟨#[32]⟩] W fun e w'=>e=.returned (.string ⟨#[100,47,101]⟩)/\qW W w'):=fun W hb=>join_one ((S2.o.on b4).on hb) (by decide)
 have d0:(w3.alloc (.cells #[Value.slice A0 3 c0,.slice (some ⟨g1,0,none⟩) 1 c1,.slice (some ⟨g2,0,none⟩) 1 c2,.slice A3 0 c3] 39)).cell? ⟨w3.heap.size,0,none⟩=some (.slice A0 3 c0):=F4.o.at_ 0;have d1:(w3.alloc (.cells #[Value.slice A0 3 c0,.slice (some ⟨g1,0,none⟩) 1 c1,.slice (some ⟨g2,0,none⟩) 1 c2,.slice A3 0 c3] 39)).cell? ⟨w3.heap.size,1,none⟩=some (.slice (some ⟨g1,0,none⟩) 1 c1):=F4.o.at_ 1;clear hR s1 s2 i7 b4 HV;go_wp2_with (first
  | (go_at_call 30;refine CP.o.mono ?_;rintro e5 w5 ⟨rfl,rfl⟩))
 refine (CJ1.o _ qB).mono ?_;rintro e6 w6 ⟨rfl,S7⟩;have B6:=hid S7;have d2:=(F4.o.kept S7 F4.o.inside).at_ 2;have d2':w6.cell? ⟨w3.heap.size,2,none⟩=some (.slice (some ⟨g2,0,none⟩) 1 c2):=d2;clear S7 d2;go_wp2_with fail
 refine (CJ2.o _ B6.o).mono ?_;rintro e7 w7 ⟨rfl,z4⟩;have B7:=hid (B6.o.trans (z4.mono B6.o.size));have d3:w7.cell? ⟨w3.heap.size,3,none⟩=some (.slice A3 0 c3):=(F4.o.kept B7.o F4.o.inside).at_ 3;clear z4;go_wp2;go_ret;exact ⟨rfl,B4.o.trans (B7.o.mono B4.o.size)⟩
def DG.mk {room:Nat} {L:Tr} (h:DG L) (p:By):DG (aK room L (.mkdir p)).2:=by
 simp only [aK];split
 . exact h.add _ p (fun _=>rfl)
 exact h
def DG.wr {room:Nat} {L:Tr} (h:DG L) (p d:By) (t:Int):DG (aK room L (.write p d t)).2:=by
 simp only [aK];split
 .
  split
  . split
    . split
      . exact h.put _ p (fun k=>absurd rfl k)
      exact h
    exact h
  exact h
 exact h
def DG.ln {room:Nat} {L:Tr} (h:DG L) (p d:By) (t:Int):DG (aK room L (.link p d t)).2:=by
 simp only [aK];split
 . split
   . exact h.add _ p (fun _=>rfl)
   exact h
 exact h
def DG.doM {M:Mo} {y:Eff} (h:DG M.now) (hs:DG (aK M.room M.now y).2):DG (bL M y).2.now:=by
 unfold bL;split
 . exact h
 split
 . exact hs
 exact h
def DG.ways (l:List By):∀{M:Mo},DG M.now->DG (eN M l).now:=by
 induction l with
 | nil=>exact fun h=>h
 | cons q l ih=>exact fun h=>ih (h.doM (h.mk q))
def DG.putM {M:Mo} (h:DG M.now) (x:bS):DG (iN M x).now:=by
 have hw:=DG.ways (waysL x.p).dropLast h;unfold iN;split
 .
  rename_i y hy
  unfold sS at hy;split at hy
  . injection hy with hy;subst hy;exact hw.doM (hw.wr _ _ _)
  split at hy
  . injection hy with hy;subst hy;exact hw.doM (hw.mk _)
  split at hy
  . injection hy with hy;subst hy;exact hw.doM (hw.ln _ _ _)
  cases hy
 exact hw
def DG.made (xs:List bS):DG (cN xs).now:=by
 have:∀(xs:List bS) (M:Mo),DG M.now->DG (xs.foldl iN M).now:=by
  intro xs;induction xs with
  | nil=>exact fun M h=>h
  | cons x xs ih=>exact fun M h=>ih _ (h.putM x)
 exact this xs _ DG.nil
def Xz {ig:By->Bool} {l:Tr} {k:Nat} {x:At} (h:x∈partF ig l l k):x∈l:=by
 unfold partF at h;exact (List.mem_filter.1 h).1
def jW.load {B:Nat} {w:World} {g c:Nat} {ps:List (At × Value)} (h:jW B w (.slice (some ⟨g,0,none⟩) ps.length c) ps) (k:Nat) (hk:k < ps.length) :
 (loadVar 58 ⟨g,k*27,none⟩).run Tryz.prog w=.ok (.agg (recN (ps[k]).1.1 (ps[k]).1.2 (ps[k]).2)) w:=by
 obtain ⟨g',c',e,_,_,I9⟩:=h.at_ (by omega);injection e with e _ _;injection e with e;injection e with e _ _;subst e;refine run_loadVar_mid (P:=Tryz.prog) w g (k*27) 58 (recN (ps[k]).1.1 (ps[k]).1.2 (ps[k]).2).toList _ (fun j u hj=>I9 k hk j u ?_ hj) Tryz.underlying58 rfl (by show _=some 27;kernel_rfl);have:=(List.getElem?_eq_some_iff.1 hj).1;exact this
def jW.kq4 {B:Nat} {w w':World} {v:Value} {ps:List (At × Value)} (h:jW B w v ps) (k:Kq w w'):jW B w' v ps:=⟨oW h.own k,fun y hy=>(h.dg y hy).kq k⟩
def It {w:World} {B B':Nat} {A A':Option Addr} {n c c':Nat} {ps qs:List (At × Value)} (h:jW B w (.slice A n c) ps) (h':jW B' w (.slice A' n c') qs) (hl:ps.length=n) (he:qs.map (·.1)=ps.map (·.1)) (hn:n<=100000) (hs:∀y∈ps,(hasN y.1.2).length<=100000) :
 qC 15 #[.slice A n c,.slice A' n c'] w fun e w'=>e=.returned (.bool true)/\qW w w':=by
 have MQ:qs.length=n:=by have h9:=congrArg List.length he;rw [List.length_map,List.length_map] at h9;omega
 have HP:=hid h;have HQ:=hid h';have HL:=hid hl;have XK:=hid MQ;have HE:=hid he;have HS:=hid hs;clear h h' hl MQ he hs;go_enter Tryz.func15,Tryz.ntmps15
 go_wp2;go_loopw [5] (fun v5 wr=>∃i:Nat,v5=.int .i64 (i:Int)/\i<=n/\Hid (qW w wr)) (fun v5 _=>n - (intOf v5).toNat)
 case atStart=>exact ⟨0,rfl,Nat.zero_le _,Below.refl _ _⟩
 obtain ⟨i,rfl,hi,HB⟩:=hrel;by_cases d8:i < n
 .
  have y7:i < ps.length:=by rw [HL.o];exact d8
  have PR:i < qs.length:=by rw [XK.o];exact d8
  obtain ⟨g,d,e,_,_,_⟩:=HP.o.at_ (by omega);rw [HL.o] at e;injection e with e1 e2 e3;clear e2;subst e3;subst e1;obtain ⟨g',d',e,_,_,_⟩:=HQ.o.at_ (by omega);rw [XK.o] at e;injection e with e1 e2 e3;clear e2;subst e3;subst e1;have LA:∀V,qW w V->(loadVar 58 ⟨g,i*27,none⟩).run Tryz.prog V=.ok (.agg (recN ps[i].1.1 ps[i].1.2 ps[i].2)) V:=fun V hV =>
   jW.load (g:=g) (c:=c) (ps:=ps) (by rw [HL.o];exact HP.o.kq4 (Kq.of_below hV)) i y7
  have LB:∀V,qW w V->(loadVar 58 ⟨g',i*27,none⟩).run Tryz.prog V=.ok (.agg (recN qs[i].1.1 qs[i].1.2 qs[i].2)) V:=fun V hV =>
   jW.load (g:=g') (c:=c') (ps:=qs) (by rw [XK.o];exact HQ.o.kq4 (Kq.of_below hV)) i PR
  have FI:qs[i].1=ps[i].1:=by
   have h1:(qs.map (·.1))[i]? = (ps.map (·.1))[i]?:=by rw [HE.o]
   simpa [List.getElem?_map,List.getElem?_eq_getElem y7,List.getElem?_eq_getElem PR] using h1
  have PT:=HP.o.dg _ (List.getElem_mem y7);have qu:=HQ.o.dg _ (List.getElem_mem PR);have p9:=HS.o _ (List.getElem_mem y7);rw [FI] at LB qu;obtain ⟨⟨⟨q,nn⟩,bv⟩,hyy⟩:=qY (ps[i]);obtain ⟨bv',hbv'⟩:=qY (qs[i].2);rw [hyy] at LA LB PT qu p9;rw [hbv'] at LB qu;dsimp only at LA LB PT qu p9;obtain ⟨A1,c1,rfl⟩:=PT.form;obtain ⟨A2,c2,rfl⟩:=qu.form;obtain ⟨cs,DF⟩:=qX (recN q nn (.slice A1 (hasN nn).length c1));obtain ⟨cs',HCS'⟩:=qX (recN q nn (.slice A2 (hasN nn).length c2));have TW:Twin w cs cs':=⟨⟨_,_,_,_,_,_,A1,A2,_,c1,c2,hasN nn,_,_,DF.o.symm,HCS'.o.symm,PT,qu,rfl,p9⟩⟩;have CW:Hid (∀V,qW w V->qC 22 #[.agg cs,.agg cs'] V fun e w'=>e=.returned (.bool true)/\qW V w'):=fun V hV=>Fk (TW.on hV)
  rw [DF.o] at LA;rw [HCS'.o] at LB;have SW:Hid (∀V,qW w V->(loadVar 58 ⟨g,i*27,none⟩).run Tryz.prog V=.ok (.agg cs) V/\(loadVar 58 ⟨g',i*27,none⟩).run Tryz.prog V=.ok (.agg cs') V):=fun V hV=>⟨LA V hV,LB V hV⟩
  obtain ⟨wf,N0⟩:=qY (wr.drew);have BF:Hid (qW w wf):=N0▸HB.o.drew;have ilt:(i:Int) < (n:Int):=by omega
  have i0:(0:Int)<=(i:Int):=by omega
  have w1:IntKind.i64.wrap ((i:Int)+1)=(i:Int)+1:=aM _ (by omega) (by omega);clear LA LB FI PT qu p9 hyy hbv' TW y7 PR;go_wp2;refine qG (S:=fun V=>(loadVar 58 ⟨g,i*27,none⟩).run Tryz.prog V=.ok (.agg cs) V/\(loadVar 58 ⟨g',i*27,none⟩).run Tryz.prog V=.ok (.agg cs') V) (by kernel_rfl) (by rw [N0];exact SW.o _ BF.o) (fun hS=>?_);clear hS;rw [N0];have l7:=SW.o _ BF.o;refine aG 0 ?_
  iterate 3
   refine qT rfl (by kernel_rfl) ‹_› (fun w a8=>by go_simp;with_reducible rfl) ?_;simp only [Act.put,aB,aA,aC,Nat.reduceAdd]
  refine aE ?_;refine' qL 3 rfl (by kernel_rfl) (aY (by rfl) 58 (.tmp 19) rfl g (i*27) rfl cs (fun X qr=>qr.1)) ‹_› ?_;simp only [Act.put,aB,aA,aC];refine aG 4 ?_
  iterate 3
   refine qT rfl (by kernel_rfl) ‹_› (fun w a8=>by go_simp;with_reducible rfl) ?_;simp only [Act.put,aB,aA,aC,Nat.reduceAdd]
  refine aE ?_;refine' qL 7 rfl (by kernel_rfl) (aY (by rfl) 58 (.tmp 23) rfl g' (i*27) rfl cs' (fun X qr=>qr.2)) ‹_› ?_;simp only [Act.put,aB,aA,aC];refine qD 8 rfl (by kernel_rfl) fun K hK=>?_
  go_simp;clear l7;refine (CW.o _ BF.o).mono ?_;rintro e9 wg ⟨rfl,x7⟩;have BG:Hid (qW w wg):=BF.o.trans (x7.mono BF.o.size);have l7:=SW.o _ BG.o;clear x7;refine hK.o _ _ l7 (fun hS=>?_);clear hK K hS;refine qK 9 rfl (by kernel_rfl) ‹_› (fun w a8=>by go_simp;with_reducible rfl) ?_;simp only [Act.put,aB,aA,aC];refine qM (by kernel_rfl) ?_;go_wp2;go_roundw
  case rel=>exact ⟨i+1,by go_num,by omega,BG.o⟩
  case measure=>simp [intOf];omega
 have kge:¬(i:Int) < (n:Int):=by omega
 go_wp2;go_ret;exact ⟨rfl,HB.o⟩
end Go.Proofs.YtahkcemdbfjilaaGreatDoor
namespace Go.Proofs.YtahkcemdbfjilaaGreatDoor.Glob
open Go.RowKit Go.Maps
def uJ (s p:By) (w:World) :
 qC 96 #[.string (ba s),.string (ba p)] w fun e w'=>e=.returned (.bool (pre p s))/\w=w':=by
 have z1:=aD s;have z2:=aD p;have HP:=hid (vI p s);by_cases h:p.length<=s.length
 . go_enter Tryz.func96,Tryz.ntmps96
   go_wp2;go_ret;exact ⟨aF (by rw [HP.o,bH,gU,bH]),rfl⟩
 go_enter Tryz.func96,Tryz.ntmps96
 go_wp2;go_ret;refine ⟨aF ?_,rfl⟩
 cases hb:pre p s with
 | false=>rfl
 | true=>exact absurd (bU hb) h
def Nw {fs:Fl} {name:By} {k:Nat} (hk:k < fs.length) (h1:∀i (hi:i < fs.length),i < k->(fs[i].1 == name)=false) (h2:(fs[k].1 == name)=true):bQ fs name=some fs[k].2:=by
 induction fs generalizing k with
 | nil=>simp at hk
 | cons f fs ih =>
  unfold bQ;rw [List.find?_cons]
  cases k with
  | zero=>simp only [List.getElem_cons_zero] at h2 ⊢;rw [h2]
  | succ k =>
   have h0:=h1 0 (by simp) (by omega);simp only [List.getElem_cons_zero] at h0;rw [h0];have:=ih (k:=k) (by simpa using hk) (fun i hi hik=>by have:=h1 (i+1) (by simpa using hi) (by omega);simpa using this) (by simpa using h2);unfold bQ at this;simpa using this
def Ye {fs:Fl} {name:By} (h1:∀i (hi:i < fs.length),(fs[i].1 == name)=false):bQ fs name=none:=by
 induction fs with
 | nil=>rfl
 | cons f fs ih =>
  unfold bQ;rw [List.find?_cons];have h0:=h1 0 (by simp);simp only [List.getElem_cons_zero] at h0;rw [h0];have:=ih (fun i hi=>by have:=h1 (i+1) (by simpa using hi);simpa using this);unfold bQ at this;exact this
def Eh (o:Option By):Value:=match o with | none=>.tuple #[.string ⟨#[]⟩,.bool false] | some t=>.tuple #[.string (ba t),.bool true]
def sI (v:Value) (fs:Fl) (name:By) (w:World) (hf:bO w v fs) (hn:fs.length<=1000) :
 qC 94 #[v,.string (ba name)] w fun e w'=>e=.returned (Eh (bQ fs name))/\w=w':=by
 have HF:=hid hf;obtain ⟨n,mo⟩:=qX (fs.length);obtain ⟨A,cp,hv⟩:=hf.form;rw [mo.o] at hv hn;subst hv;obtain ⟨goal,ER⟩:=qX (bQ fs name);rw [ER.o];have zn:(ba name).toList=name:=bH name;clear hf;go_enter Tryz.func94,Tryz.ntmps94
 go_wp2;go_loopw [6] (fun i wr=>∃(k:Nat),i=.int .i64 (k:Int)/\k<=n/\Hid (∀i (hi:i < fs.length),i < k->(fs[i].1 == name)=false)/\w=wr)
  (fun i _=>n - (intOf i).toNat)
 case atStart=>exact ⟨0,rfl,Nat.zero_le _,fun i hi h=>absurd h (by omega),rfl⟩
 obtain ⟨k,rfl,hk,HT,rfl⟩:=hrel;by_cases d8:k < n
 .
  have j4:k < fs.length:=by rw [mo.o];exact d8
  obtain ⟨g,o,cp2,vz,hg,d9⟩:=HF.o.row (by omega);rw [mo.o] at vz;simp only [Value.slice.injEq,true_and] at vz;obtain ⟨rfl,rfl⟩:=vz;have c0:=(d9 k j4).1;have c1:=(d9 k j4).2;have GQ:(k:Int) < (n:Int):=by omega
  have zx:(ba fs[k].1).toList=fs[k].1:=bH _
  cases hb:(fs[k].1 == name) with
  | true =>
   have GR:Hid (goal=some fs[k].2):=by show _=_;rw [<-ER.o];exact Nw j4 HT.o hb
   have a9:(fs[k].1=name):=by simpa using hb
   generalize fs[k].2=t at c1 GR;generalize fs[k].1=x at c0 zx hb a9;subst a9;clear d9 hb;go_wp2;go_ret2;rw [GR.o];exact ⟨rfl,rfl⟩
  | false =>
   have HT2:Hid (∀i (hi:i < fs.length),i < k+1->(fs[i].1 == name)=false):=fun i hi h=>by
    by_cases hik:i < k
    . exact HT.o i hi hik
    obtain rfl:i=k:=by omega
    exact hb
   have a9:¬(fs[k].1=name):=by simpa using hb
   generalize fs[k].2=t at c1;generalize fs[k].1=x at c0 zx hb a9;clear d9;go_wp2;exact ⟨⟨k+1,by go_num,by omega,HT2.o,trivial⟩,by simp [intOf];omega⟩
 have GQ:¬((k:Int) < (n:Int)):=by omega
 have GR:Hid (goal=none):=by show _=_;rw [<-ER.o];exact Ye (fun i hi=>HT.o i hi (by have:=mo.o;omega))
 go_wp2;go_ret2;rw [GR.o];exact ⟨rfl,rfl⟩
def wN (c:UInt8) (r:By):aN (c :: r)=if aN r=[] then (if blk c then [] else [c]) else c :: aN r:=by
 unfold aN;rw [List.reverse_cons,List.dropWhile_append]
 cases h:r.reverse.dropWhile blk with
 | nil =>
  simp only [List.isEmpty_nil,if_true,List.reverse_nil]
  cases hb:blk c<;>simp [hb]
 | cons x t=>simp
def fG:∀l:By,aN (l.dropWhile blk)=(aN l).dropWhile blk
 | []=>rfl
 | c :: r=>by
  have ih:=fG r;rw [List.dropWhile_cons,wN]
  cases hb:blk c with
  | true =>
   simp only [if_true];rw [ih];split
   . rename_i h;rw [h]
   rw [List.dropWhile_cons_of_pos hb]
  | false =>
   simp only [Bool.false_eq_true,if_false];rw [wN,hb];simp only [Bool.false_eq_true,if_false];split
   . rw [List.dropWhile_cons_of_neg (by rw [hb];decide)]
   rw [List.dropWhile_cons_of_neg (by rw [hb];decide)]
def sg (s:By) (a b:Nat):By:=(s.drop a).take (b - a)
def Il {s:By} {a b:Nat} (h:a < b) (hb:b<=s.length):sg s a b=at8 s a :: sg s (a+1) b:=by
 unfold sg;rw [List.drop_eq_getElem_cons (by omega),show b - a=(b - (a+1))+1 by omega,List.take_succ_cons];simp [at8,List.getD,show a < s.length by omega]
def uE {s:By} {a b:Nat} (h:a < b) (hb:b<=s.length):sg s a b=sg s a (b - 1)++[at8 s (b - 1)]:=by
 unfold sg;rw [show b - a=(b - 1 - a)+1 by omega,List.take_succ_eq_append_getElem (by rw [List.length_drop];omega)];congr 1
 have e:a+(b - 1 - a)=b - 1:=by omega
 simp [at8,List.getD,e,show b - 1 < s.length by omega]
def oS (s:By) (a:Nat):sg s a a=[]:=by unfold sg;simp
def fH:∀(l:By) (m:Nat),(∀j,j < m->at8 l j≠10)->m < l.length->at8 l m=10->cutN l=(l.take m,l.drop (m+1),true)
 | [],m,_,hm,_=>by simp at hm
 | c :: l,0,_,_,h=>by
  have:c=10:=h;unfold cutN;rw [if_pos this];rfl
 | c :: l,m+1,h1,hm,h=>by
  have h0:¬c=10:=h1 0 (by omega);have ih:=fH l m (fun j hj=>h1 (j+1) (by omega)) (by simpa using hm) h;unfold cutN;rw [if_neg h0,ih];rfl
def eO:∀(l:By),(∀j,j < l.length->at8 l j≠10)->cutN l=(l,[],false)
 | [],_=>rfl
 | c :: l,h1=>by
  have h0:¬c=10:=h1 0 (by simp);have ih:=eO l (fun j hj=>h1 (j+1) (by simpa using hj));unfold cutN;rw [if_neg h0,ih]
def lD (l:By) (f m:Nat):at8 (l.drop f) m=at8 l (f+m):=by simp [at8,List.getD,List.getElem?_drop]
def LI (s:By) (R:List By) (f k:Nat):Prop :=
 f<=k/\R.length<=k/\(k<=s.length->rowsN s=R++rowsN (s.drop f)/\∀j,f<=j->j < k->at8 s j≠10)/\(s.length < k->rowsN s=R)
def LI.on {s:By} {R:List By} {f k:Nat} (h:LI s R f k) (hk:k < s.length) (hx:at8 s k≠10):LI s R f (k+1):=by
 obtain ⟨h1,h2,h3,_⟩:=h;refine ⟨by omega,by omega,fun _=>⟨(h3 (by omega)).1,fun j hj hjk=>?_⟩,fun h=>absurd h (by omega)⟩;by_cases hjk2:j=k
 . rw [hjk2];exact hx
 exact (h3 (by omega)).2 j hj (by omega)
def LI.cut {s:By} {R:List By} {f k:Nat} (h:LI s R f k) (hk:k<=s.length) (hx:k < s.length->at8 s k=10):LI s (R++[sg s f k]) (k+1) (k+1):=by
 obtain ⟨h1,h2,h3,_⟩:=h;obtain ⟨h4,h5⟩:=h3 hk;refine ⟨Nat.le_refl _,by simp;omega,fun Q9=>⟨?_,fun j hj hjk=>absurd hjk (by omega)⟩,fun Q9=>?_⟩
 .
  have o3:k < s.length:=by omega
  have hc:=fH (s.drop f) (k - f) (fun j hj=>by rw [lD];exact h5 _ (by omega) (by omega)) (by rw [List.length_drop];omega) (by rw [lD,show f+(k - f)=k by omega];exact hx o3);rw [h4,bB,hc];simp only [if_true];rw [List.drop_drop,show f+(k - f+1)=k+1 by omega,List.append_assoc];rfl
 have o3:k=s.length:=by omega
 have hc:=eO (s.drop f) (fun j hj=>by rw [lD];rw [List.length_drop] at hj;exact h5 _ (by omega) (by omega));rw [h4,bB,hc];simp only [Bool.false_eq_true,if_false];congr 1
 unfold sg;rw [List.take_of_length_le (by rw [List.length_drop];omega)]
def jm (s:By) (a b:Nat):(ba s).extract a b=ba (sg s a b):=by
 apply ByteArray.ext;apply Array.ext';simp [ba,sg]
def Lk (s:By) (w:World) (hs:s.length<=100000) :
 qC 95 #[.string (ba s)] w fun e w'=>(∃v,e=.returned v/\Ar w.heap.size w' v ((rowsN s).map trimB))/\qW w w':=by
 have z:=aD s;obtain ⟨n,hn⟩:=qY (s.length);have HN:=hid hn;rw [hn] at z;have wn:Hid (n<=100000):=by show _<=_;omega
 have ES:n<=100000:=wn.o;have IX:=hid (fun i (h:i < n) W=>aX s i (by rw [hn];exact h) W);have ET:=hid (jm s);generalize hX:ba s=X at z IX ET;clear hs hn hX;go_enter Tryz.func95,Tryz.ntmps95
 go_wp2;go_loopw [3,4,5] (fun l fr i wr=>∃(f k:Nat) (R:List By) (A:Option Addr) (m c:Nat),i=.int .i64 (k:Int)/\fr=.int .i64 (f:Int)/\l=.slice A m c/\f<=n+1/\k<=n+1/\Hid (LI s R f k)/\Hid (Ar w.heap.size wr (.slice A m c) (R.map trimB))/\Hid (qW w wr))
  (fun _ _ i _=>n+1 - (intOf i).toNat)
 case atStart=>exact ⟨0,0,[],none,0,0,rfl,rfl,rfl,by omega,by omega,⟨Nat.le_refl _,Nat.le_refl _,fun _=>⟨rfl,fun j _ hj=>absurd hj (by omega)⟩,fun h=>absurd h (by omega)⟩,World.ownsRow_nil _ _ _ _,Below.refl _ _⟩
 obtain ⟨f,k,R,A,m,c,rfl,rfl,rfl,SZ,PC,PU,HA,HB⟩:=hrel;by_cases hk:k<=n
 .
  have GQ:(k:Int)<=(n:Int):=by omega
  have s7:=hid hk;by_cases GS:k < n/\at8 s k≠10
  .
   have o3:(k:Int) < (n:Int):=by omega
   have HLI2:=hid (PU.o.on (by have:=HN.o;omega) GS.2);have ix:=IX.o k GS.1;have hq:(b8 (at8 s k) == 10)=false:=by rw [show (10:Int)=b8 10 from rfl,aL];simpa using GS.2
   have NT:(b8 (at8 s k) != 10)=true:=by rw [bne,hq];rfl
   generalize at8 s k=x at ix hq NT;clear GS hk;go_wp2;exact ⟨⟨f,k+1,R,A,m,c,by go_num,rfl,rfl,by omega,by omega,HLI2.o,HA.o,HB.o⟩,by simp [intOf];omega⟩
  have su:=hid (PU.o.cut (k:=k) (by have:=HN.o;omega) (fun h=>by
   have:=HN.o;by_cases hx:at8 s k=10
   . exact hx
   exact absurd ⟨by omega,hx⟩ GS))
  have HFK:=hid PU.o.1;have GT:=hid PU.o.2.1;by_cases EU:k < n
  .
   have o3:(k:Int) < (n:Int):=by omega
   have hx10:at8 s k=10:=by
    by_cases hx:at8 s k=10
    . exact hx
    exact absurd ⟨EU,hx⟩ GS
   have ix:=IX.o k EU;rw [hx10] at ix;rw [show b8 10=10 from rfl] at ix;clear GS hk EU hx10;go_wp2;go_loopw [6] (fun av wx=>∃a:Nat,av=.int .i64 (a:Int)/\f<=a/\a<=k/\Hid ((sg s f k).dropWhile blk=(sg s a k).dropWhile blk)/\wr=wx)
    (fun av _=>k - (intOf av).toNat)
   case atStart=>exact ⟨f,rfl,Nat.le_refl _,HFK.o,rfl,rfl⟩
   obtain ⟨a,rfl,TD,hak,EV,rfl⟩:=hrel;by_cases j4:a < k
   .
    have XL:(a:Int) < (k:Int):=by omega
    have ix:=IX.o a (by have:=s7.o;omega);have P8:Hid (sg s a k=at8 s a :: sg s (a+1) k):=Il j4 (by have:=HN.o;have:=s7.o;omega);have EW:=hid j4;by_cases j6:at8 s a=32
    . rw [j6] at ix P8
      rw [show b8 32=32 from rfl] at ix;have JZ:Hid ((sg s f k).dropWhile blk=(sg s (a+1) k).dropWhile blk):=by show _=_;rw [EV.o,P8.o];rfl
      clear j6 j4;go_wp2;exact ⟨⟨a+1,by go_num,by omega,EW.o,JZ.o,trivial⟩,by have:=EW.o;simp [intOf];omega⟩
    by_cases K7:at8 s a=9
    . rw [K7] at ix P8
      rw [show b8 9=9 from rfl] at ix;have JZ:Hid ((sg s f k).dropWhile blk=(sg s (a+1) k).dropWhile blk):=by show _=_;rw [EV.o,P8.o];rfl
      clear j6 K7 j4;go_wp2;exact ⟨⟨a+1,by go_num,by omega,EW.o,JZ.o,trivial⟩,by have:=EW.o;simp [intOf];omega⟩
    have BJ:(b8 (at8 s a) == 32)=false:=by rw [show (32:Int)=b8 32 from rfl,aL];simpa using j6
    have q9:(b8 (at8 s a) == 9)=false:=by rw [show (9:Int)=b8 9 from rfl,aL];simpa using K7
    have HY:Hid ((sg s f k).dropWhile blk=sg s a k):=by
         show _=_
         rw [EV.o,P8.o,List.dropWhile_cons_of_neg];simp [blk,j6,K7]
    generalize at8 s a=x at ix BJ q9;clear j6 K7 j4 P8;go_wp2;go_loopw [7] (fun bv wx=>∃b:Nat,bv=.int .i64 (b:Int)/\a<=b/\b<=k/\Hid (aN (sg s a k)=aN (sg s a b))/\wr=wx)
         (fun bv _=>(intOf bv).toNat)
    case atStart=>exact ⟨k,rfl,by omega,Nat.le_refl _,rfl,rfl⟩
    obtain ⟨b,rfl,KA,NC,ra,rfl⟩:=hrel;by_cases p8:a < b
    .
     have EX:(a:Int) < (b:Int):=by omega
     obtain ⟨b1,c8⟩:=qY (b - 1);have KC:(b:Int) - 1=(b1:Int):=by omega
     have BK:sg s a b=sg s a b1++[at8 s b1]:=by rw [<-c8];exact uE p8 (by have:=HN.o;have:=s7.o;omega)
     have ix:=IX.o b1 (by have:=s7.o;omega);have J9:Hid (aN (sg s a b)=if blk (at8 s b1) then aN (sg s a b1) else sg s a b):=by show _=_;rw [BK,kQ]
     have I0:Hid (b1+1=b/\a<=b1):=⟨by omega,by omega⟩;clear BK c8;by_cases j6:at8 s b1=32
     . rw [j6] at ix J9
       rw [show b8 32=32 from rfl] at ix;have rq:Hid (aN (sg s a k)=aN (sg s a b1)):=by show _=_;rw [ra.o,J9.o];rfl
       clear j6 p8;go_wp2;exact ⟨⟨b1,rfl,I0.o.2,by have:=I0.o.1;omega,rq.o,trivial⟩,by have:=I0.o.1;simp [intOf];omega⟩
     by_cases K7:at8 s b1=9
     . rw [K7] at ix J9
       rw [show b8 9=9 from rfl] at ix;have rq:Hid (aN (sg s a k)=aN (sg s a b1)):=by show _=_;rw [ra.o,J9.o];rfl
       clear j6 K7 p8;go_wp2;exact ⟨⟨b1,rfl,I0.o.2,by have:=I0.o.1;omega,rq.o,trivial⟩,by have:=I0.o.1;simp [intOf];omega⟩
     have BJ:(b8 (at8 s b1) == 32)=false:=by rw [show (32:Int)=b8 32 from rfl,aL];simpa using j6
     have q9:(b8 (at8 s b1) == 9)=false:=by rw [show (9:Int)=b8 9 from rfl,aL];simpa using K7
     have HZ:Hid (aN (sg s a k)=sg s a b):=by
      show _=_
      rw [ra.o,J9.o,if_neg];simp [blk,j6,K7]
     generalize at8 s b1=x at ix BJ q9;clear j6 K7 p8 J9;obtain ⟨t,ht⟩:=qY (sg s a b);have HT:Hid (trimB (sg s f k)=t):=by
      show _=_
      unfold trimB;rw [<-fG,HY.o,HZ.o,<-ht]
     have bsg:=ET.o a b;rw [ht] at bsg;have om:(a:Int)<=(b:Int):=by omega
     have KD:(b:Int)<=(n:Int):=by have:=s7.o;omega
     obtain ⟨Wb,Q8⟩:=qY (wr.alloc (.cells #[.string (ba t)] 9));have bb:qW wr Wb:=Q8▸qB.alloc qN _;have G7:Has Wb wr.heap.size 9 #[.string (ba t)]:=Q8▸Has.fresh _ _ _;obtain ⟨v5,w5,i6,A8,_,r8,_⟩:=cM (own_below HA.o bb) G7 (by rw [List.length_map];have:=GT.o;have:=s7.o;have:=wn.o;omega) (Nat.le_trans HB.o.size bb.size) 34;have Z0:R.map trimB++[t]=(R++[sg s f k]).map trimB:=by rw [List.map_append,List.map_cons,HT.o];rfl
     rw [Z0] at A8;have M7:=hid i6;have sw:=hid A8;have H8:Hid (qW w w5):=bM r8 (HB.o.thenG bb) (fun j hj=>(aS HA.o j hj).1) (Nat.le_trans HB.o.size bb.size);obtain ⟨A5,c5,I6⟩:=aO A8;generalize ((R++[sg s f k]).map trimB).length=m5 at I6;subst I6;clear ht bb G7 i6 A8 r8 Z0;go_wp2_with (at_builtin;refine wpList_append_run rfl (.tmp 62) (.tmp 67) 34 34 rfl ⟨_,w5,M7.o,?_⟩)
     first | (exact ⟨⟨k+1,k+1,R++[sg s f k],A5,m5,c5,by go_num,by go_num,rfl,by have:=s7.o;omega,by have:=s7.o;omega,su.o,sw.o,H8.o⟩,by have:=s7.o;simp [intOf];omega⟩) | omega
    have EX:¬((a:Int) < (b:Int)):=by omega
    have HZ:Hid (aN (sg s a k)=sg s a b):=by
     show _=_
     obtain rfl:a=b:=by omega
     rw [ra.o,oS];rfl
    clear p8;obtain ⟨t,ht⟩:=qY (sg s a b);have HT:Hid (trimB (sg s f k)=t):=by
     show _=_
     unfold trimB;rw [<-fG,HY.o,HZ.o,<-ht]
    have bsg:=ET.o a b;rw [ht] at bsg;have om:(a:Int)<=(b:Int):=by omega
    have KD:(b:Int)<=(n:Int):=by have:=s7.o;omega
    obtain ⟨Wb,Q8⟩:=qY (wr.alloc (.cells #[.string (ba t)] 9));have bb:qW wr Wb:=Q8▸qB.alloc qN _;have G7:Has Wb wr.heap.size 9 #[.string (ba t)]:=Q8▸Has.fresh _ _ _;obtain ⟨v5,w5,i6,A8,_,r8,_⟩:=cM (own_below HA.o bb) G7 (by rw [List.length_map];have:=GT.o;have:=s7.o;have:=wn.o;omega) (Nat.le_trans HB.o.size bb.size) 34;have Z0:R.map trimB++[t]=(R++[sg s f k]).map trimB:=by rw [List.map_append,List.map_cons,HT.o];rfl
    rw [Z0] at A8;have M7:=hid i6;have sw:=hid A8;have H8:Hid (qW w w5):=bM r8 (HB.o.thenG bb) (fun j hj=>(aS HA.o j hj).1) (Nat.le_trans HB.o.size bb.size);obtain ⟨A5,c5,I6⟩:=aO A8;generalize ((R++[sg s f k]).map trimB).length=m5 at I6;subst I6;clear ht bb G7 i6 A8 r8 Z0;go_wp2_with (at_builtin;refine wpList_append_run rfl (.tmp 62) (.tmp 67) 34 34 rfl ⟨_,w5,M7.o,?_⟩)
    first | (exact ⟨⟨k+1,k+1,R++[sg s f k],A5,m5,c5,by go_num,by go_num,rfl,by have:=s7.o;omega,by have:=s7.o;omega,su.o,sw.o,H8.o⟩,by have:=s7.o;simp [intOf];omega⟩) | omega
   have XL:¬((a:Int) < (k:Int)):=by omega
   have HY:Hid ((sg s f k).dropWhile blk=sg s a k):=by
    show _=_
    obtain rfl:a=k:=by omega
    rw [EV.o,oS];rfl
   clear j4;go_wp2;go_loopw [7] (fun bv wx=>∃b:Nat,bv=.int .i64 (b:Int)/\a<=b/\b<=k/\Hid (aN (sg s a k)=aN (sg s a b))/\wr=wx)
    (fun bv _=>(intOf bv).toNat)
   case atStart=>exact ⟨k,rfl,by omega,Nat.le_refl _,rfl,rfl⟩
   obtain ⟨b,rfl,KA,NC,ra,rfl⟩:=hrel;by_cases p8:a < b
   .
    have EX:(a:Int) < (b:Int):=by omega
    obtain ⟨b1,c8⟩:=qY (b - 1);have KC:(b:Int) - 1=(b1:Int):=by omega
    have BK:sg s a b=sg s a b1++[at8 s b1]:=by rw [<-c8];exact uE p8 (by have:=HN.o;have:=s7.o;omega)
    have ix:=IX.o b1 (by have:=s7.o;omega);have J9:Hid (aN (sg s a b)=if blk (at8 s b1) then aN (sg s a b1) else sg s a b):=by show _=_;rw [BK,kQ]
    have I0:Hid (b1+1=b/\a<=b1):=⟨by omega,by omega⟩;clear BK c8;by_cases j6:at8 s b1=32
    . rw [j6] at ix J9
      rw [show b8 32=32 from rfl] at ix;have rq:Hid (aN (sg s a k)=aN (sg s a b1)):=by show _=_;rw [ra.o,J9.o];rfl
      clear j6 p8;go_wp2;exact ⟨⟨b1,rfl,I0.o.2,by have:=I0.o.1;omega,rq.o,trivial⟩,by have:=I0.o.1;simp [intOf];omega⟩
    by_cases K7:at8 s b1=9
    . rw [K7] at ix J9
      rw [show b8 9=9 from rfl] at ix;have rq:Hid (aN (sg s a k)=aN (sg s a b1)):=by show _=_;rw [ra.o,J9.o];rfl
      clear j6 K7 p8;go_wp2;exact ⟨⟨b1,rfl,I0.o.2,by have:=I0.o.1;omega,rq.o,trivial⟩,by have:=I0.o.1;simp [intOf];omega⟩
    have BJ:(b8 (at8 s b1) == 32)=false:=by rw [show (32:Int)=b8 32 from rfl,aL];simpa using j6
    have q9:(b8 (at8 s b1) == 9)=false:=by rw [show (9:Int)=b8 9 from rfl,aL];simpa using K7
    have HZ:Hid (aN (sg s a k)=sg s a b):=by
     show _=_
     rw [ra.o,J9.o,if_neg];simp [blk,j6,K7]
    generalize at8 s b1=x at ix BJ q9;clear j6 K7 p8 J9;obtain ⟨t,ht⟩:=qY (sg s a b);have HT:Hid (trimB (sg s f k)=t):=by
     show _=_
     unfold trimB;rw [<-fG,HY.o,HZ.o,<-ht]
    have bsg:=ET.o a b;rw [ht] at bsg;have om:(a:Int)<=(b:Int):=by omega
    have KD:(b:Int)<=(n:Int):=by have:=s7.o;omega
    obtain ⟨Wb,Q8⟩:=qY (wr.alloc (.cells #[.string (ba t)] 9));have bb:qW wr Wb:=Q8▸qB.alloc qN _;have G7:Has Wb wr.heap.size 9 #[.string (ba t)]:=Q8▸Has.fresh _ _ _;obtain ⟨v5,w5,i6,A8,_,r8,_⟩:=cM (own_below HA.o bb) G7 (by rw [List.length_map];have:=GT.o;have:=s7.o;have:=wn.o;omega) (Nat.le_trans HB.o.size bb.size) 34;have Z0:R.map trimB++[t]=(R++[sg s f k]).map trimB:=by rw [List.map_append,List.map_cons,HT.o];rfl
    rw [Z0] at A8;have M7:=hid i6;have sw:=hid A8;have H8:Hid (qW w w5):=bM r8 (HB.o.thenG bb) (fun j hj=>(aS HA.o j hj).1) (Nat.le_trans HB.o.size bb.size);obtain ⟨A5,c5,I6⟩:=aO A8;generalize ((R++[sg s f k]).map trimB).length=m5 at I6;subst I6;clear ht bb G7 i6 A8 r8 Z0;go_wp2_with (at_builtin;refine wpList_append_run rfl (.tmp 62) (.tmp 67) 34 34 rfl ⟨_,w5,M7.o,?_⟩)
    first | (exact ⟨⟨k+1,k+1,R++[sg s f k],A5,m5,c5,by go_num,by go_num,rfl,by have:=s7.o;omega,by have:=s7.o;omega,su.o,sw.o,H8.o⟩,by have:=s7.o;simp [intOf];omega⟩) | omega
   have EX:¬((a:Int) < (b:Int)):=by omega
   have HZ:Hid (aN (sg s a k)=sg s a b):=by
         show _=_
         obtain rfl:a=b:=by omega
         rw [ra.o,oS];rfl
   clear p8;obtain ⟨t,ht⟩:=qY (sg s a b);have HT:Hid (trimB (sg s f k)=t):=by
         show _=_
         unfold trimB;rw [<-fG,HY.o,HZ.o,<-ht]
   have bsg:=ET.o a b;rw [ht] at bsg;have om:(a:Int)<=(b:Int):=by omega
   have KD:(b:Int)<=(n:Int):=by have:=s7.o;omega
   obtain ⟨Wb,Q8⟩:=qY (wr.alloc (.cells #[.string (ba t)] 9));have bb:qW wr Wb:=Q8▸qB.alloc qN _;have G7:Has Wb wr.heap.size 9 #[.string (ba t)]:=Q8▸Has.fresh _ _ _;obtain ⟨v5,w5,i6,A8,_,r8,_⟩:=cM (own_below HA.o bb) G7 (by rw [List.length_map];have:=GT.o;have:=s7.o;have:=wn.o;omega) (Nat.le_trans HB.o.size bb.size) 34;have Z0:R.map trimB++[t]=(R++[sg s f k]).map trimB:=by rw [List.map_append,List.map_cons,HT.o];rfl
   rw [Z0] at A8;have M7:=hid i6;have sw:=hid A8;have H8:Hid (qW w w5):=bM r8 (HB.o.thenG bb) (fun j hj=>(aS HA.o j hj).1) (Nat.le_trans HB.o.size bb.size);obtain ⟨A5,c5,I6⟩:=aO A8;generalize ((R++[sg s f k]).map trimB).length=m5 at I6;subst I6;clear ht bb G7 i6 A8 r8 Z0;go_wp2_with (at_builtin;refine wpList_append_run rfl (.tmp 62) (.tmp 67) 34 34 rfl ⟨_,w5,M7.o,?_⟩)
   first | (exact ⟨⟨k+1,k+1,R++[sg s f k],A5,m5,c5,by go_num,by go_num,rfl,by have:=s7.o;omega,by have:=s7.o;omega,su.o,sw.o,H8.o⟩,by have:=s7.o;simp [intOf];omega⟩) | omega
  have o3:¬((k:Int) < (n:Int)):=by omega
  clear GS hk EU;go_wp2;go_loopw [6] (fun av wx=>∃a:Nat,av=.int .i64 (a:Int)/\f<=a/\a<=k/\Hid ((sg s f k).dropWhile blk=(sg s a k).dropWhile blk)/\wr=wx)
   (fun av _=>k - (intOf av).toNat)
  case atStart=>exact ⟨f,rfl,Nat.le_refl _,HFK.o,rfl,rfl⟩
  obtain ⟨a,rfl,TD,hak,EV,rfl⟩:=hrel;by_cases j4:a < k
  .
   have XL:(a:Int) < (k:Int):=by omega
   have ix:=IX.o a (by have:=s7.o;omega);have P8:Hid (sg s a k=at8 s a :: sg s (a+1) k):=Il j4 (by have:=HN.o;have:=s7.o;omega);have EW:=hid j4;by_cases j6:at8 s a=32
   . rw [j6] at ix P8
     rw [show b8 32=32 from rfl] at ix;have JZ:Hid ((sg s f k).dropWhile blk=(sg s (a+1) k).dropWhile blk):=by show _=_;rw [EV.o,P8.o];rfl
     clear j6 j4;go_wp2;exact ⟨⟨a+1,by go_num,by omega,EW.o,JZ.o,trivial⟩,by have:=EW.o;simp [intOf];omega⟩
   by_cases K7:at8 s a=9
   . rw [K7] at ix P8
     rw [show b8 9=9 from rfl] at ix;have JZ:Hid ((sg s f k).dropWhile blk=(sg s (a+1) k).dropWhile blk):=by show _=_;rw [EV.o,P8.o];rfl
     clear j6 K7 j4;go_wp2;exact ⟨⟨a+1,by go_num,by omega,EW.o,JZ.o,trivial⟩,by have:=EW.o;simp [intOf];omega⟩
   have BJ:(b8 (at8 s a) == 32)=false:=by rw [show (32:Int)=b8 32 from rfl,aL];simpa using j6
   have q9:(b8 (at8 s a) == 9)=false:=by rw [show (9:Int)=b8 9 from rfl,aL];simpa using K7
   have HY:Hid ((sg s f k).dropWhile blk=sg s a k):=by
        show _=_
        rw [EV.o,P8.o,List.dropWhile_cons_of_neg];simp [blk,j6,K7]
   generalize at8 s a=x at ix BJ q9;clear j6 K7 j4 P8;go_wp2;go_loopw [7] (fun bv wx=>∃b:Nat,bv=.int .i64 (b:Int)/\a<=b/\b<=k/\Hid (aN (sg s a k)=aN (sg s a b))/\wr=wx)
        (fun bv _=>(intOf bv).toNat)
   case atStart=>exact ⟨k,rfl,by omega,Nat.le_refl _,rfl,rfl⟩
   obtain ⟨b,rfl,KA,NC,ra,rfl⟩:=hrel;by_cases p8:a < b
   .
    have EX:(a:Int) < (b:Int):=by omega
    obtain ⟨b1,c8⟩:=qY (b - 1);have KC:(b:Int) - 1=(b1:Int):=by omega
    have BK:sg s a b=sg s a b1++[at8 s b1]:=by rw [<-c8];exact uE p8 (by have:=HN.o;have:=s7.o;omega)
    have ix:=IX.o b1 (by have:=s7.o;omega);have J9:Hid (aN (sg s a b)=if blk (at8 s b1) then aN (sg s a b1) else sg s a b):=by show _=_;rw [BK,kQ]
    have I0:Hid (b1+1=b/\a<=b1):=⟨by omega,by omega⟩;clear BK c8;by_cases j6:at8 s b1=32
    . rw [j6] at ix J9
      rw [show b8 32=32 from rfl] at ix;have rq:Hid (aN (sg s a k)=aN (sg s a b1)):=by show _=_;rw [ra.o,J9.o];rfl
      clear j6 p8;go_wp2;exact ⟨⟨b1,rfl,I0.o.2,by have:=I0.o.1;omega,rq.o,trivial⟩,by have:=I0.o.1;simp [intOf];omega⟩
    by_cases K7:at8 s b1=9
    . rw [K7] at ix J9
      rw [show b8 9=9 from rfl] at ix;have rq:Hid (aN (sg s a k)=aN (sg s a b1)):=by show _=_;rw [ra.o,J9.o];rfl
      clear j6 K7 p8;go_wp2;exact ⟨⟨b1,rfl,I0.o.2,by have:=I0.o.1;omega,rq.o,trivial⟩,by have:=I0.o.1;simp [intOf];omega⟩
    have BJ:(b8 (at8 s b1) == 32)=false:=by rw [show (32:Int)=b8 32 from rfl,aL];simpa using j6
    have q9:(b8 (at8 s b1) == 9)=false:=by rw [show (9:Int)=b8 9 from rfl,aL];simpa using K7
    have HZ:Hid (aN (sg s a k)=sg s a b):=by
     show _=_
     rw [ra.o,J9.o,if_neg];simp [blk,j6,K7]
    generalize at8 s b1=x at ix BJ q9;clear j6 K7 p8 J9;obtain ⟨t,ht⟩:=qY (sg s a b);have HT:Hid (trimB (sg s f k)=t):=by
     show _=_
     unfold trimB;rw [<-fG,HY.o,HZ.o,<-ht]
    have bsg:=ET.o a b;rw [ht] at bsg;have om:(a:Int)<=(b:Int):=by omega
    have KD:(b:Int)<=(n:Int):=by have:=s7.o;omega
    obtain ⟨Wb,Q8⟩:=qY (wr.alloc (.cells #[.string (ba t)] 9));have bb:qW wr Wb:=Q8▸qB.alloc qN _;have G7:Has Wb wr.heap.size 9 #[.string (ba t)]:=Q8▸Has.fresh _ _ _;obtain ⟨v5,w5,i6,A8,_,r8,_⟩:=cM (own_below HA.o bb) G7 (by rw [List.length_map];have:=GT.o;have:=s7.o;have:=wn.o;omega) (Nat.le_trans HB.o.size bb.size) 34;have Z0:R.map trimB++[t]=(R++[sg s f k]).map trimB:=by rw [List.map_append,List.map_cons,HT.o];rfl
    rw [Z0] at A8;have M7:=hid i6;have sw:=hid A8;have H8:Hid (qW w w5):=bM r8 (HB.o.thenG bb) (fun j hj=>(aS HA.o j hj).1) (Nat.le_trans HB.o.size bb.size);obtain ⟨A5,c5,I6⟩:=aO A8;generalize ((R++[sg s f k]).map trimB).length=m5 at I6;subst I6;clear ht bb G7 i6 A8 r8 Z0;go_wp2_with (at_builtin;refine wpList_append_run rfl (.tmp 62) (.tmp 67) 34 34 rfl ⟨_,w5,M7.o,?_⟩)
    first | (exact ⟨⟨k+1,k+1,R++[sg s f k],A5,m5,c5,by go_num,by go_num,rfl,by have:=s7.o;omega,by have:=s7.o;omega,su.o,sw.o,H8.o⟩,by have:=s7.o;simp [intOf];omega⟩) | omega
   have EX:¬((a:Int) < (b:Int)):=by omega
   have HZ:Hid (aN (sg s a k)=sg s a b):=by
    show _=_
    obtain rfl:a=b:=by omega
    rw [ra.o,oS];rfl
   clear p8;obtain ⟨t,ht⟩:=qY (sg s a b);have HT:Hid (trimB (sg s f k)=t):=by
    show _=_
    unfold trimB;rw [<-fG,HY.o,HZ.o,<-ht]
   have bsg:=ET.o a b;rw [ht] at bsg;have om:(a:Int)<=(b:Int):=by omega
   have KD:(b:Int)<=(n:Int):=by have:=s7.o;omega
   obtain ⟨Wb,Q8⟩:=qY (wr.alloc (.cells #[.string (ba t)] 9));have bb:qW wr Wb:=Q8▸qB.alloc qN _;have G7:Has Wb wr.heap.size 9 #[.string (ba t)]:=Q8▸Has.fresh _ _ _;obtain ⟨v5,w5,i6,A8,_,r8,_⟩:=cM (own_below HA.o bb) G7 (by rw [List.length_map];have:=GT.o;have:=s7.o;have:=wn.o;omega) (Nat.le_trans HB.o.size bb.size) 34;have Z0:R.map trimB++[t]=(R++[sg s f k]).map trimB:=by rw [List.map_append,List.map_cons,HT.o];rfl
   rw [Z0] at A8;have M7:=hid i6;have sw:=hid A8;have H8:Hid (qW w w5):=bM r8 (HB.o.thenG bb) (fun j hj=>(aS HA.o j hj).1) (Nat.le_trans HB.o.size bb.size);obtain ⟨A5,c5,I6⟩:=aO A8;generalize ((R++[sg s f k]).map trimB).length=m5 at I6;subst I6;clear ht bb G7 i6 A8 r8 Z0;go_wp2_with (at_builtin;refine wpList_append_run rfl (.tmp 62) (.tmp 67) 34 34 rfl ⟨_,w5,M7.o,?_⟩)
   first | (exact ⟨⟨k+1,k+1,R++[sg s f k],A5,m5,c5,by go_num,by go_num,rfl,by have:=s7.o;omega,by have:=s7.o;omega,su.o,sw.o,H8.o⟩,by have:=s7.o;simp [intOf];omega⟩) | omega
  have XL:¬((a:Int) < (k:Int)):=by omega
  have HY:Hid ((sg s f k).dropWhile blk=sg s a k):=by
   show _=_
   obtain rfl:a=k:=by omega
   rw [EV.o,oS];rfl
  clear j4;go_wp2;go_loopw [7] (fun bv wx=>∃b:Nat,bv=.int .i64 (b:Int)/\a<=b/\b<=k/\Hid (aN (sg s a k)=aN (sg s a b))/\wr=wx)
   (fun bv _=>(intOf bv).toNat)
  case atStart=>exact ⟨k,rfl,by omega,Nat.le_refl _,rfl,rfl⟩
  obtain ⟨b,rfl,KA,NC,ra,rfl⟩:=hrel;by_cases p8:a < b
  .
   have EX:(a:Int) < (b:Int):=by omega
   obtain ⟨b1,c8⟩:=qY (b - 1);have KC:(b:Int) - 1=(b1:Int):=by omega
   have BK:sg s a b=sg s a b1++[at8 s b1]:=by rw [<-c8];exact uE p8 (by have:=HN.o;have:=s7.o;omega)
   have ix:=IX.o b1 (by have:=s7.o;omega);have J9:Hid (aN (sg s a b)=if blk (at8 s b1) then aN (sg s a b1) else sg s a b):=by show _=_;rw [BK,kQ]
   have I0:Hid (b1+1=b/\a<=b1):=⟨by omega,by omega⟩;clear BK c8;by_cases j6:at8 s b1=32
   . rw [j6] at ix J9
     rw [show b8 32=32 from rfl] at ix;have rq:Hid (aN (sg s a k)=aN (sg s a b1)):=by show _=_;rw [ra.o,J9.o];rfl
     clear j6 p8;go_wp2;exact ⟨⟨b1,rfl,I0.o.2,by have:=I0.o.1;omega,rq.o,trivial⟩,by have:=I0.o.1;simp [intOf];omega⟩
   by_cases K7:at8 s b1=9
   . rw [K7] at ix J9
     rw [show b8 9=9 from rfl] at ix;have rq:Hid (aN (sg s a k)=aN (sg s a b1)):=by show _=_;rw [ra.o,J9.o];rfl
     clear j6 K7 p8;go_wp2;exact ⟨⟨b1,rfl,I0.o.2,by have:=I0.o.1;omega,rq.o,trivial⟩,by have:=I0.o.1;simp [intOf];omega⟩
   have BJ:(b8 (at8 s b1) == 32)=false:=by rw [show (32:Int)=b8 32 from rfl,aL];simpa using j6
   have q9:(b8 (at8 s b1) == 9)=false:=by rw [show (9:Int)=b8 9 from rfl,aL];simpa using K7
   have HZ:Hid (aN (sg s a k)=sg s a b):=by
       show _=_
       rw [ra.o,J9.o,if_neg];simp [blk,j6,K7]
   generalize at8 s b1=x at ix BJ q9;clear j6 K7 p8 J9;obtain ⟨t,ht⟩:=qY (sg s a b);have HT:Hid (trimB (sg s f k)=t):=by
       show _=_
       unfold trimB;rw [<-fG,HY.o,HZ.o,<-ht]
   have bsg:=ET.o a b;rw [ht] at bsg;have om:(a:Int)<=(b:Int):=by omega
   have KD:(b:Int)<=(n:Int):=by have:=s7.o;omega
   obtain ⟨Wb,Q8⟩:=qY (wr.alloc (.cells #[.string (ba t)] 9));have bb:qW wr Wb:=Q8▸qB.alloc qN _;have G7:Has Wb wr.heap.size 9 #[.string (ba t)]:=Q8▸Has.fresh _ _ _;obtain ⟨v5,w5,i6,A8,_,r8,_⟩:=cM (own_below HA.o bb) G7 (by rw [List.length_map];have:=GT.o;have:=s7.o;have:=wn.o;omega) (Nat.le_trans HB.o.size bb.size) 34;have Z0:R.map trimB++[t]=(R++[sg s f k]).map trimB:=by rw [List.map_append,List.map_cons,HT.o];rfl
   rw [Z0] at A8;have M7:=hid i6;have sw:=hid A8;have H8:Hid (qW w w5):=bM r8 (HB.o.thenG bb) (fun j hj=>(aS HA.o j hj).1) (Nat.le_trans HB.o.size bb.size);obtain ⟨A5,c5,I6⟩:=aO A8;generalize ((R++[sg s f k]).map trimB).length=m5 at I6;subst I6;clear ht bb G7 i6 A8 r8 Z0;go_wp2_with (at_builtin;refine wpList_append_run rfl (.tmp 62) (.tmp 67) 34 34 rfl ⟨_,w5,M7.o,?_⟩)
   first | (exact ⟨⟨k+1,k+1,R++[sg s f k],A5,m5,c5,by go_num,by go_num,rfl,by have:=s7.o;omega,by have:=s7.o;omega,su.o,sw.o,H8.o⟩,by have:=s7.o;simp [intOf];omega⟩) | omega
  have EX:¬((a:Int) < (b:Int)):=by omega
  have HZ:Hid (aN (sg s a k)=sg s a b):=by
        show _=_
        obtain rfl:a=b:=by omega
        rw [ra.o,oS];rfl
  clear p8;obtain ⟨t,ht⟩:=qY (sg s a b);have HT:Hid (trimB (sg s f k)=t):=by
        show _=_
        unfold trimB;rw [<-fG,HY.o,HZ.o,<-ht]
  have bsg:=ET.o a b;rw [ht] at bsg;have om:(a:Int)<=(b:Int):=by omega
  have KD:(b:Int)<=(n:Int):=by have:=s7.o;omega
  obtain ⟨Wb,Q8⟩:=qY (wr.alloc (.cells #[.string (ba t)] 9));have bb:qW wr Wb:=Q8▸qB.alloc qN _;have G7:Has Wb wr.heap.size 9 #[.string (ba t)]:=Q8▸Has.fresh _ _ _;obtain ⟨v5,w5,i6,A8,_,r8,_⟩:=cM (own_below HA.o bb) G7 (by rw [List.length_map];have:=GT.o;have:=s7.o;have:=wn.o;omega) (Nat.le_trans HB.o.size bb.size) 34;have Z0:R.map trimB++[t]=(R++[sg s f k]).map trimB:=by rw [List.map_append,List.map_cons,HT.o];rfl
  rw [Z0] at A8;have M7:=hid i6;have sw:=hid A8;have H8:Hid (qW w w5):=bM r8 (HB.o.thenG bb) (fun j hj=>(aS HA.o j hj).1) (Nat.le_trans HB.o.size bb.size);obtain ⟨A5,c5,I6⟩:=aO A8;generalize ((R++[sg s f k]).map trimB).length=m5 at I6;subst I6;clear ht bb G7 i6 A8 r8 Z0;go_wp2_with (at_builtin;refine wpList_append_run rfl (.tmp 62) (.tmp 67) 34 34 rfl ⟨_,w5,M7.o,?_⟩)
  first | (exact ⟨⟨k+1,k+1,R++[sg s f k],A5,m5,c5,by go_num,by go_num,rfl,by have:=s7.o;omega,by have:=s7.o;omega,su.o,sw.o,H8.o⟩,by have:=s7.o;simp [intOf];omega⟩) | omega
 have GQ:¬((k:Int)<=(n:Int)):=by omega
 have HE:Hid (rowsN s=R):=PU.o.2.2.2 (by have:=HN.o;omega);clear hk;go_wp2;go_ret;refine ⟨⟨_,rfl,?_⟩,HB.o⟩;rw [HE.o];have h1:=HA.o;have h2:=aO h1;exact h1
end Go.Proofs.YtahkcemdbfjilaaGreatDoor.Glob
