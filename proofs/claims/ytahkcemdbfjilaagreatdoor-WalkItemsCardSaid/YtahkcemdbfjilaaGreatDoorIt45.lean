/- Several texts in one. Conditions: those said at each. -/
import Derived.Test.YtahkcemdbfjilaaGreatDoorIt44
set_option linter.unusedSimpArgs false
set_option linter.unusedVariables false
set_option maxRecDepth 100000
namespace Go.Proofs.YtahkcemdbfjilaaGreatDoor
def gXs:List PutT:=[⟨2,[102,49,47,100,47,101],[],0,0⟩,⟨1,[102,49,47,97],[97,98,99],3,5⟩,⟨1,[102,49,47,100,47,126,116,126,120],[],0,0⟩,⟨1,[102,49,47,100,47,101,47,121],[121],5000,0⟩,⟨3,[102,49,47,122],[97],0,6⟩]
def gRoot:By:=[102,49]
def gY:By:=[102,49,47,100,47,101,47,121]
def gT0:Tr:=[([102,49],⟨2,[],[],0⟩),([102,49,47,97],⟨1,[97,98,99],[],5⟩),([102,49,47,100],⟨2,[],[],0⟩),([102,49,47,100,47,101],⟨2,[],[],0⟩),([102,49,47,100,47,126,116,126,120],⟨1,[],[],0⟩)]
def gT1 (D:By):Tr:=[([102,49],⟨2,[],[],0⟩),([102,49,47,97],⟨1,[97,98,99],[],5⟩),([102,49,47,100],⟨2,[],[],0⟩),([102,49,47,100,47,101],⟨2,[],[],0⟩),([102,49,47,100,47,101,47,121],⟨1,D,[],0⟩),([102,49,47,100,47,126,116,126,120],⟨1,[],[],0⟩)]
def gT (D:By):Tr:=gT1 D++[([102,49,47,122],⟨3,[],[97],6⟩)]
structure Sx (M:Mo) (T:Tr):Prop where
 now:M.now=T
 fuse:M.fuse = -1
 room:M.room=262144
theorem Sx.same {M:Mo} {T:Tr} (h:Sx M T) {y:Eff} {c:Int} (hc:c≠0) (he:(stepE 262144 T y).1=c):Sx (doM M y).2 T:=by
 unfold doM;rw [if_neg (by rw [h.fuse];decide),h.now,h.room,if_neg (by rw [he];exact hc)]
 exact h
theorem Sx.next {M:Mo} {T T':Tr} (h:Sx M T) {y:Eff} (he:stepE 262144 T y=(0,T')):Sx (doM M y).2 T':=by
 unfold doM;rw [if_neg (by rw [h.fuse];decide),h.now,h.room,he,if_pos rfl]
 exact ⟨rfl,by show burnF M.fuse = -1;rw [h.fuse];rfl,rfl⟩
theorem g3:Sx (madeM (gXs.take 3)) gT0:=⟨by decide +kernel,by decide +kernel,by decide +kernel⟩
theorem gW (D:By) (hD:D.length=5000):stepE 262144 gT0 (.write gY D 0)=(0,gT1 D):=by
 have e:stepE 262144 gT0 (.write gY D 0)=putE 262144 gT0 gY ⟨1,D,[],0⟩:=by rfl
 have e2:usedL gT0=323:=by decide +kernel
 have e3:ins gY ⟨1,D,[],0⟩ gT0=gT1 D:=by rfl
 rw [e];unfold putE;rw [if_pos (by rw [e2];unfold useN;dsimp only;rw [hD];omega),e3]
theorem gL (D:By) (hD:D.length=5000):stepE 262144 (gT1 D) (.link [102,49,47,122] [97] 6)=(0,gT D):=by
 have e:stepE 262144 (gT1 D) (.link [102,49,47,122] [97] 6)=putE 262144 (gT1 D) [102,49,47,122] ⟨3,[],[97],6⟩:=by rfl
 have e2:usedL (gT1 D)=323+5064:=by
  unfold gT1;simp only [usedL,useN,hD,List.length_nil,List.length_cons]
 have e3:ins [102,49,47,122] ⟨3,[],[97],6⟩ (gT1 D)=gT D:=by rfl
 rw [e];unfold putE;rw [if_pos (by rw [e2];unfold useN;simp;omega),e3]
theorem ways4:(waysL gY).dropLast=[[102,49],[102,49,47,100],[102,49,47,100,47,101]]:=by decide +kernel
theorem ways5:(waysL [102,49,47,122]).dropLast=[[102,49]]:=by decide +kernel
theorem g4 (D:By) (hD:D=pdL ⟨1,gY,[121],5000,0⟩) (hl:D.length=5000):Sx (madeM gXs) (gT D):=by
 have h3:=g3;have e:madeM gXs=putM (putM (madeM (gXs.take 3)) ⟨1,gY,[121],5000,0⟩) ⟨3,[102,49,47,122],[97],0,6⟩:=rfl;rw [e];generalize madeM (gXs.take 3)=M at h3;have h4:Sx (putM M ⟨1,gY,[121],5000,0⟩) (gT1 D):=by
  unfold putM;have e1:putF ⟨1,gY,[121],5000,0⟩=some (.write gY D 0):=by unfold putF;rw [if_pos rfl,hD]
  rw [e1];show Sx (doM (waysM M (waysL gY).dropLast) _).2 _
  rw [ways4];refine Sx.next ?_ (gW D hl)
  exact Sx.same (c:=6) (Sx.same (c:=6) (Sx.same (c:=6) h3 (by decide) (by decide +kernel)) (by decide) (by decide +kernel)) (by decide) (by decide +kernel)
 generalize putM M ⟨1,gY,[121],5000,0⟩=M4 at h4;unfold putM;show Sx (doM (waysM M4 (waysL [102,49,47,122]).dropLast) (.link [102,49,47,122] [97] 6)).2 _
 rw [ways5];refine Sx.next ?_ (gL D hl)
 exact Sx.same (c:=6) h4 (by decide) (by rfl)
theorem gD_len:(pdL ⟨1,gY,[121],5000,0⟩).length=5000:=by
 unfold pdL;rw [pdTo_len];rfl
def gIn (D:By):Tr:=[([97],⟨1,[97,98,99],[],5⟩),([100],⟨2,[],[],0⟩),([100,47,101],⟨2,[],[],0⟩),([100,47,101,47,121],⟨1,D,[],0⟩),([100,47,126,116,126,120],⟨1,[],[],0⟩),([122],⟨3,[],[97],6⟩)]
theorem gInL (D:By):inL (gT D) gRoot=gIn D:=by rfl
theorem gRootE (D:By):rootE (gT D) gRoot=0:=by rfl
def gF1:Fnd:=⟨[([97],⟨1,[97,98,99],[],5⟩),([100],⟨2,[],[],0⟩),([122],⟨3,[],[97],6⟩)],[[100,47,126,116,126,120]],[[100,47,101]],[]⟩
theorem gWalk1 (D:By):walkF (igB (some [[101]])) (gIn D)=gF1:=by kernel_rfl
def gF2:Fnd:=⟨[([97],⟨1,[97,98,99],[],5⟩),([100],⟨2,[],[],0⟩),([100,47,101],⟨2,[],[],0⟩),([122],⟨3,[],[97],6⟩)],[[100,47,126,116,126,120]],[],[[100,47,101,47,121]]⟩
def gI0:Tr:=[([97],⟨1,[97,98,99],[],5⟩),([100],⟨2,[],[],0⟩),([100,47,101],⟨2,[],[],0⟩)]
theorem gWalk2 (D:By) (hl:D.length=5000):walkF (igB none) (gIn D)=gF2:=by
 have hb:badN ⟨1,D,[],0⟩=true:=by unfold badN;dsimp only;rw [hl];rfl
 have e:walkF (igB none) (gIn D)=([([100,47,126,116,126,120],⟨1,[],[],0⟩),([122],⟨3,[],[97],6⟩)].foldl (stepW (igB none)) (stepW (igB none) (⟨gI0,[],[],[]⟩,[]) ([100,47,101,47,121],⟨1,D,[],0⟩))).1:=by kernel_rfl
 rw [e,step_bad (by decide +kernel) (by decide +kernel) (by decide +kernel) hb]
 show ([([100,47,126,116,126,120],⟨1,[],[],0⟩),([122],⟨3,[],[97],6⟩)].foldl (stepW (igB none)) (⟨gI0,[],[],[]++[[100,47,101,47,121]]⟩,[])).1=gF2
 kernel_rfl
end Go.Proofs.YtahkcemdbfjilaaGreatDoor
namespace Go.Proofs.YtahkcemdbfjilaaGreatDoor
open Go.RowKit Go.Maps
theorem gRead:Glob.readL [([105],[101])] 4 [] [105] []=.ok [[101]]:=Glob.isOk_eq (by decide +kernel)
set_option maxHeartbeats 4000000 in
theorem list_e (w:World) (hG:Gd w):Calls Tryz.prog 27 #[.string ⟨#[101]⟩] w fun e w'=>∃v,e=.returned v∧Lst w' v (some [[101]])∧Below w.heap.size w w':=by
 have C:Hid (Calls Tryz.prog 11 #[.slice (some ⟨w.heap.size,0,none⟩) 1 1,.string ⟨#[105]⟩] (w.alloc (.cells #[.string ⟨#[105]⟩,.string ⟨#[101]⟩] 91)) fun e W=>∃L,e=.returned (.tuple #[.pointer (some ⟨L,0,none⟩),.int .i64 0])∧Lst W (.pointer (some ⟨L,0,none⟩)) (some [[101]])∧Below w.heap.size w W):=by
  refine (Glob.parse_one [105] [101] [105] w hG (by decide) (by decide) (by decide)).mono ?_
  rintro e W ⟨h1,h2⟩;unfold Glob.ParseOut at h1;rw [gRead] at h1;obtain ⟨L,a1,_,a3,a4⟩:=h1;exact ⟨L,a1,.some _ L _ a3 a4,h2⟩
 clear hG;go_enter Tryz.func27,Tryz.ntmps27
 go_wp2_with (go_at_call 11;refine C.out.mono ?_;rintro e1 w1 ⟨L,rfl,hl,hb⟩;have HL:=hid hl;have HB:=hid hb;clear hl hb)
 go_ret;exact ⟨_,rfl,HL.out,HB.out⟩
def gCells:Array Value:=#[.int .i64 2,.string ⟨#[102,49,47,100,47,101]⟩,.string ⟨#[]⟩,.int .i64 0,.int .i64 0,.int .i64 1,.string ⟨#[102,49,47,97]⟩,.string ⟨#[97,98,99]⟩,.int .i64 3,.int .i64 5,.int .i64 1,.string ⟨#[102,49,47,100,47,126,116,126,120]⟩,.string ⟨#[]⟩,.int .i64 0,.int .i64 0,.int .i64 1,.string ⟨#[102,49,47,100,47,101,47,121]⟩,.string ⟨#[121]⟩,.int .i64 5000,.int .i64 0,.int .i64 3,.string ⟨#[102,49,47,122]⟩,.string ⟨#[97]⟩,.int .i64 0,.int .i64 6]
theorem g_puts {w:World} {g:Nat} (h:Has w g 89 gCells):PutsIn w (some ⟨g,0,none⟩) 5 g 0 gXs where
 len:=rfl
 src:=fun _=>⟨rfl,h.inside⟩
 at_:=fun i hi=>by
  match i,hi with
  | 0,_=>exact ⟨h.at_ 0,h.at_ 1,h.at_ 2,h.at_ 3,h.at_ 4⟩
  | 1,_=>exact ⟨h.at_ 5,h.at_ 6,h.at_ 7,h.at_ 8,h.at_ 9⟩
  | 2,_=>exact ⟨h.at_ 10,h.at_ 11,h.at_ 12,h.at_ 13,h.at_ 14⟩
  | 3,_=>exact ⟨h.at_ 15,h.at_ 16,h.at_ 17,h.at_ 18,h.at_ 19⟩
  | 4,_=>exact ⟨h.at_ 20,h.at_ 21,h.at_ 22,h.at_ 23,h.at_ 24⟩
  | i+5,hi=>omega
 ok:=fun x hx=>by
  simp only [gXs,List.mem_cons,List.not_mem_nil,or_false] at hx;rcases hx with rfl | rfl | rfl | rfl | rfl<;>exact ⟨by simp,by simp,by decide,by decide⟩
set_option maxHeartbeats 4000000 in
theorem given_any (w:World) (hG:Gd w):Calls Tryz.prog 26 #[] w fun e w'=>∃p,e=.returned (.pointer (some ⟨p,0,none⟩))∧Lv w w' [.d p (madeM gXs)]:=by
 have hb:Below w.heap.size w (w.alloc (.cells gCells 89)):=(Below.refl _ _).alloc (Nat.le_refl _) _;have HB:=hid hb;have C:=hid (made_any (cap:=5) (w.alloc (.cells gCells 89)) (g_puts (Has.fresh w 89 gCells)) (hG.kept hb) (by omega) (fun x hx=>by
  simp only [gXs,List.mem_cons,List.not_mem_nil,or_false] at hx;rcases hx with rfl | rfl | rfl | rfl | rfl<;>exact ⟨by simp,by simp⟩))
 clear hG hb;go_enter Tryz.func26,Tryz.ntmps26
 go_wp2_with fail
 refine C.out.mono ?_;rintro e1 w1 ⟨p,q,rfl,hl⟩;have HL:=hid hl;clear hl;go_wp2;go_ret;exact ⟨p,rfl,(HL.out.swap.drop).ahead HB.out⟩
end Go.Proofs.YtahkcemdbfjilaaGreatDoor
namespace Go.Proofs.YtahkcemdbfjilaaGreatDoor
open Go.RowKit Go.Maps
theorem DG.of {L:Tr} (h:∀x∈L,x.2.kind≠1→x.2.data=[]):DG L:=by
 intro p n hp hk;induction L with
 | nil=>cases hp
 | cons a L ih =>
  obtain ⟨q,m⟩:=a;rw [look] at hp;split at hp
  · injection hp with hp;subst hp;exact h _ List.mem_cons_self hk
  · exact ih (fun x hx=>h x (List.mem_cons_of_mem _ hx)) hp
theorem gDG (D:By):DG (gT D):=DG.of fun x hx hk=>by
 simp only [gT,gT1,List.cons_append,List.nil_append,List.mem_cons,List.not_mem_nil,or_false] at hx;rcases hx with rfl | rfl | rfl | rfl | rfl | rfl | rfl
 · rfl
 · exact absurd rfl hk
 · rfl
 · rfl
 · exact absurd rfl hk
 · exact absurd rfl hk
 · rfl
structure GOk (M:Mo):Prop where
 dg:DG M.now
 root:rootE M.now gRoot=0
 f1:foundM (some [[101]]) M.now gRoot=gF1
 f2:foundM none M.now gRoot=gF2
theorem g_ok:GOk (madeM gXs):=by
 have h:=g4 _ rfl gD_len;have hl:=gD_len;generalize pdL ⟨1,gY,[121],5000,0⟩=D at h hl;have e:=h.now;refine ⟨by rw [e];exact gDG D,by rw [e];exact gRootE D,?_,?_⟩
 · unfold foundM;rw [e,gRootE D,if_pos rfl,gInL D];exact gWalk1 D
 · unfold foundM;rw [e,gRootE D,if_pos rfl,gInL D];exact gWalk2 D hl
theorem join_one {B:Nat} {w:World} {g c:Nat} {p:By} (h:StrR B w (.slice (some ⟨g,0,none⟩) 1 c) [p]) (hp:p.length≤4000) :
 Calls Tryz.prog 29 #[.slice (some ⟨g,0,none⟩) 1 c,.string ⟨#[32]⟩] w fun e w'=>e=.returned (kS p)∧Below w.heap.size w w':=by
 obtain ⟨g',c',e,hg,hc⟩:=strR_at h (by simp)
 injection e with e1 _ e3;injection e1 with e1;injection e1 with e1 _ _;subst e1 e3;have h1:1≤c:=by
  rcases h.2 with ⟨k,_⟩ | ⟨g2,c2,cur,k,_,_,k4,_⟩
  · cases k
  · injection k with _ _ k;omega
 have hj:Lib.join ([ba p].map (·.data.toList)) (⟨#[32]⟩:ByteArray).data.toList=p:=by
  show Lib.join [(ba p).data.toList] _=p
  have:(ba p).data.toList=p:=by show (p.toArray).toList=p;simp
  rw [this];simp [Lib.join]
 refine (Tryz.strings_Join g 0 c [ba p] ⟨#[32]⟩ w (fun j x hx=>?_) hg (by simp) (by simpa using h1) (by rw [hj];omega)).mono ?_
 · match j,hx with
   | 0,hx=>simp at hx;subst hx;exact hc 0 (by simp)
   | j+1,hx=>simp at hx
 · rintro e w' ⟨rfl,hb⟩
   refine ⟨?_,hb⟩;rw [hj];rfl
set_option maxHeartbeats 8000000 in
theorem awake_any (w:World) (hG:Gd w) (hT:Sha.Tab w):Calls Tryz.prog 9 #[] w fun e w'=>e=.returned (.bool true)∧Below w.heap.size w w':=by
 have HG:=hid hG;have HT:=hid hT;have C1:=hid (given_any w hG);obtain ⟨M,HM⟩:∃M,Hid (madeM gXs=M):=⟨_,rfl⟩;have HO:=hid g_ok;rw [HM.out] at HO C1;clear hG hT;go_enter Tryz.func9,Tryz.ntmps9
 go_wp2_with fail
 refine C1.out.mono ?_;rintro e1 w1 ⟨p,rfl,hl1⟩;have L1:=hid hl1;have C2:=hid (list_e w1 (HG.out.kept hl1.bl));clear hl1;go_wp2_with fail
 refine C2.out.mono ?_;rintro e2 w2 ⟨v,rfl,hv,hb2⟩;have L2:=hid (L1.out.on hb2);obtain ⟨own,hD⟩:=L2.out.headD;have C3:=hid (walk_any hD (HG.out.kept L2.out.bl) (HT.out.kept L2.out.bl HG.out.pos) HO.out.dg gRoot v (some [[101]]) hv);rw [HO.out.root,HO.out.f1] at C3;clear hb2 hD hv C2;go_wp2_with fail
 refine C3.out.mono ?_;rintro e3 w3 ⟨vi,vs,rfl,hR,hS,hb3⟩;have B3:Hid (Below w.heap.size w w3):=L2.out.bl.trans (hb3.mono L2.out.bl.size);obtain ⟨A0,c0,rfl⟩:=hR.form;obtain ⟨A1,c1,f1⟩:=(hS 1 (by omega) (by omega)).form
 obtain ⟨A2,c2,f2⟩:=(hS 2 (by omega) (by omega)).form
 obtain ⟨A3,c3,f3⟩:=(hS 3 (by omega) (by omega)).form
 have s1:=hS 1 (by omega) (by omega)
 have s2:=hS 2 (by omega) (by omega)
 rw [f1] at s1;rw [f2] at s2;rw [f1,f2,f3];clear f1 f2 f3 hS;obtain ⟨g1,k1,e1,_,_⟩:=strR_at s1 (by decide)
 obtain ⟨g2,k2,e2,_,_⟩:=strR_at s2 (by decide)
 injection e1 with e1 e1b e1c;injection e2 with e2 e2b e2c;clear e1b e1c e2b e2c k1 k2;subst e1;subst e2;have HR0:Hid (RecR w2.heap.size w3 (.slice A0 3 c0) gF1.items):=hR;have S1:Hid (StrR w2.heap.size w3 (.slice (some ⟨g1,0,none⟩) 1 c1) [[100,47,126,116,126,120]]):=s1;have S2:Hid (StrR w2.heap.size w3 (.slice (some ⟨g2,0,none⟩) 1 c2) [[100,47,101]]):=s2;show _
 have HV:Hid (#[Value.slice A0 3 c0,.slice (some ⟨g1,0,none⟩) 1 c1,.slice (some ⟨g2,0,none⟩) 1 c2,.slice A3 0 c3]=#[Value.slice A0 gF1.items.length c0,.slice (some ⟨g1,0,none⟩) (lsOf gF1 1).length c1,.slice (some ⟨g2,0,none⟩) (lsOf gF1 2).length c2,.slice A3 (lsOf gF1 3).length c3]):=rfl;rw [←HV.out];have b4:Below w3.heap.size w3 (w3.alloc (.cells #[Value.slice A0 3 c0,.slice (some ⟨g1,0,none⟩) 1 c1,.slice (some ⟨g2,0,none⟩) 1 c2,.slice A3 0 c3] 39)):=(Below.refl _ _).alloc (Nat.le_refl _) _;have F4:Hid (Has (w3.alloc (.cells #[Value.slice A0 3 c0,.slice (some ⟨g1,0,none⟩) 1 c1,.slice (some ⟨g2,0,none⟩) 1 c2,.slice A3 0 c3] 39)) w3.heap.size 39 #[Value.slice A0 3 c0,.slice (some ⟨g1,0,none⟩) 1 c1,.slice (some ⟨g2,0,none⟩) 1 c2,.slice A3 0 c3]):=Has.fresh _ _ _;have B4:Hid (Below w.heap.size w (w3.alloc (.cells #[Value.slice A0 3 c0,.slice (some ⟨g1,0,none⟩) 1 c1,.slice (some ⟨g2,0,none⟩) 1 c2,.slice A3 0 c3] 39))):=B3.out.trans (b4.mono B3.out.size);have CP:Hid (Calls Tryz.prog 30 #[.slice A0 3 c0] (w3.alloc (.cells #[Value.slice A0 3 c0,.slice (some ⟨g1,0,none⟩) 1 c1,.slice (some ⟨g2,0,none⟩) 1 c2,.slice A3 0 c3] 39)) fun e w'=>e=.returned (.string ⟨#[97,32,100,32,122,32]⟩)∧(w3.alloc (.cells #[Value.slice A0 3 c0,.slice (some ⟨g1,0,none⟩) 1 c1,.slice (some ⟨g2,0,none⟩) 1 c2,.slice A3 0 c3] 39))=w'):=by
  refine (paths_any (HR0.out.on b4) (by decide) (by decide)).mono ?_
  rintro e w' ⟨rfl,rfl⟩;exact ⟨rfl,rfl⟩
 have CJ1:Hid (∀W,Below (w3.alloc (.cells #[Value.slice A0 3 c0,.slice (some ⟨g1,0,none⟩) 1 c1,.slice (some ⟨g2,0,none⟩) 1 c2,.slice A3 0 c3] 39)).heap.size (w3.alloc (.cells #[Value.slice A0 3 c0,.slice (some ⟨g1,0,none⟩) 1 c1,.slice (some ⟨g2,0,none⟩) 1 c2,.slice A3 0 c3] 39)) W→Calls Tryz.prog 29 #[.slice (some ⟨g1,0,none⟩) 1 c1,.string ⟨#[32]⟩] W fun e w'=>e=.returned (.string ⟨#[100,47,126,116,126,120]⟩)∧Below W.heap.size W w'):=fun W hb=>join_one ((S1.out.on b4).on hb) (by decide)
 have CJ2:Hid (∀W,Below (w3.alloc (.cells #[Value.slice A0 3 c0,.slice (some ⟨g1,0,none⟩) 1 c1,.slice (some ⟨g2,0,none⟩) 1 c2,.slice A3 0 c3] 39)).heap.size (w3.alloc (.cells #[Value.slice A0 3 c0,.slice (some ⟨g1,0,none⟩) 1 c1,.slice (some ⟨g2,0,none⟩) 1 c2,.slice A3 0 c3] 39)) W→Calls Tryz.prog 29 #[.slice (some ⟨g2,0,none⟩) 1 c2,.string ⟨#[32]⟩] W fun e w'=>e=.returned (.string ⟨#[100,47,101]⟩)∧Below W.heap.size W w'):=fun W hb=>join_one ((S2.out.on b4).on hb) (by decide)
 have d0:(w3.alloc (.cells #[Value.slice A0 3 c0,.slice (some ⟨g1,0,none⟩) 1 c1,.slice (some ⟨g2,0,none⟩) 1 c2,.slice A3 0 c3] 39)).cell? ⟨w3.heap.size,0,none⟩=some (.slice A0 3 c0):=F4.out.at_ 0;have d1:(w3.alloc (.cells #[Value.slice A0 3 c0,.slice (some ⟨g1,0,none⟩) 1 c1,.slice (some ⟨g2,0,none⟩) 1 c2,.slice A3 0 c3] 39)).cell? ⟨w3.heap.size,1,none⟩=some (.slice (some ⟨g1,0,none⟩) 1 c1):=F4.out.at_ 1;clear hR s1 s2 hb3 b4 HV;go_wp2_with (first
  | (go_at_call 30;refine CP.out.mono ?_;rintro e5 w5 ⟨rfl,rfl⟩))
 refine (CJ1.out _ (Below.refl _ _)).mono ?_;rintro e6 w6 ⟨rfl,hb6⟩;have B6:=hid hb6;have d2:=(F4.out.kept hb6 F4.out.inside).at_ 2;have d2':w6.cell? ⟨w3.heap.size,2,none⟩=some (.slice (some ⟨g2,0,none⟩) 1 c2):=d2;clear hb6 d2;go_wp2_with fail
 refine (CJ2.out _ B6.out).mono ?_;rintro e7 w7 ⟨rfl,hb7⟩;have B7:=hid (B6.out.trans (hb7.mono B6.out.size));have d3:w7.cell? ⟨w3.heap.size,3,none⟩=some (.slice A3 0 c3):=(F4.out.kept B7.out F4.out.inside).at_ 3;clear hb7;go_wp2;go_ret;exact ⟨rfl,B4.out.trans (B7.out.mono B4.out.size)⟩
end Go.Proofs.YtahkcemdbfjilaaGreatDoor
namespace Go.Proofs.YtahkcemdbfjilaaGreatDoor
open Go.RowKit Go.Maps
theorem DG.mk {room:Nat} {L:Tr} (h:DG L) (p:By):DG (stepE room L (.mkdir p)).2:=by
 simp only [stepE];split
 · exact h.add _ p (fun _=>rfl)
 · exact h
theorem DG.wr {room:Nat} {L:Tr} (h:DG L) (p d:By) (t:Int):DG (stepE room L (.write p d t)).2:=by
 simp only [stepE];split
 · split
   · split
     · split
       · exact h.put _ p (fun k=>absurd rfl k)
       · exact h
     · exact h
   · exact h
 · exact h
theorem DG.ln {room:Nat} {L:Tr} (h:DG L) (p d:By) (t:Int):DG (stepE room L (.link p d t)).2:=by
 simp only [stepE];split
 · split
   · exact h.add _ p (fun _=>rfl)
   · exact h
 · exact h
theorem DG.doM {M:Mo} {y:Eff} (h:DG M.now) (hs:DG (stepE M.room M.now y).2):DG (Go.Proofs.YtahkcemdbfjilaaGreatDoor.doM M y).2.now:=by
 unfold Go.Proofs.YtahkcemdbfjilaaGreatDoor.doM;split
 · exact h
 · split
   · exact hs
   · exact h
theorem DG.ways (l:List By):∀{M:Mo},DG M.now→DG (waysM M l).now:=by
 induction l with
 | nil=>exact fun h=>h
 | cons q l ih=>exact fun h=>ih (h.doM (h.mk q))
theorem DG.putM {M:Mo} (h:DG M.now) (x:PutT):DG (Go.Proofs.YtahkcemdbfjilaaGreatDoor.putM M x).now:=by
 have hw:=DG.ways (waysL x.p).dropLast h;unfold Go.Proofs.YtahkcemdbfjilaaGreatDoor.putM;split
 · rename_i y hy
   unfold putF at hy;split at hy
   · injection hy with hy;subst hy;exact hw.doM (hw.wr _ _ _)
   · split at hy
     · injection hy with hy;subst hy;exact hw.doM (hw.mk _)
     · split at hy
       · injection hy with hy;subst hy;exact hw.doM (hw.ln _ _ _)
       · cases hy
 · exact hw
theorem DG.made (xs:List PutT):DG (madeM xs).now:=by
 have:∀(xs:List PutT) (M:Mo),DG M.now→DG (xs.foldl Go.Proofs.YtahkcemdbfjilaaGreatDoor.putM M).now:=by
  intro xs;induction xs with
  | nil=>exact fun M h=>h
  | cons x xs ih=>exact fun M h=>ih _ (h.putM x)
 exact this xs _ DG.nil
end Go.Proofs.YtahkcemdbfjilaaGreatDoor
