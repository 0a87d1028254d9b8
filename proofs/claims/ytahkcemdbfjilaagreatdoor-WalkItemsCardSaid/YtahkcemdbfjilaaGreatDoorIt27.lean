/- Several texts in one. Conditions: those said at each. -/
import Derived.Test.YtahkcemdbfjilaaGreatDoorIt26
import Derived.Test.YtahkcemdbfjilaaGreatDoorIt17
set_option linter.unusedSimpArgs false
set_option linter.unusedVariables false
set_option maxRecDepth 100000
namespace Go.Proofs.YtahkcemdbfjilaaGreatDoor.Glob
open Go.RowKit Go.Maps
def ofM (s path:By):Bool:=match parseL s with | none=>false | some p=>mB p.rooted p.hs path
def negM (s:By):Bool:=match parseL s with | none=>false | some p=>p.m &&& 1 != 0
def delM (s:By):Bool:=match parseL s with | none=>false | some p=>p.m &&& 4 != 0
def hitL (path:By) (ps:List By):Option By:=ps.find? fun s=>ofM s path
def matL (ps:List By) (path:By):Bool × Bool :=
 if mayB path then match hitL path ps with | none=>(false,false) | some s=>if negM s then (false,false) else (true,delM s) else (false,false)
theorem Pats.at_ {B:Nat} {w:World} {v:Value} {ps:List By} (h:Pats B w v ps) (h0:0 < ps.length):∃g c,v=.slice (some ⟨g,0,none⟩) ps.length c∧g < w.heap.size∧∀k (hk:k < ps.length),∃pg p,w.cell? ⟨g,k,none⟩=some (ptrV pg)∧PatIs w pg ps[k] p∧parseL ps[k]=some p:=by
 obtain ⟨gs,ho,hl,hp⟩:=h;obtain ⟨g,c,h1,_,h3,_,h5⟩:=own_cells ho h0;refine ⟨g,c,h1,h3,fun k hk=>?_⟩
 have hg:gs[k]? = some gs[k]:=List.getElem?_eq_getElem (by omega)
 obtain ⟨p,a1,a2,_⟩:=hp k gs[k] ps[k] hg (List.getElem?_eq_getElem hk);exact ⟨gs[k],p,h5 k _ (by rw [List.getElem?_map,hg];rfl),a1,a2⟩
theorem find_at {ps:List By} {path:By} {k:Nat} (hk:k < ps.length) (h1:(ps.take k).any (fun s=>ofM s path)=false) (h2:ofM ps[k] path=true):hitL path ps=some ps[k]:=by
 obtain ⟨s,hs⟩:∃s,ps[k]=s:=⟨_,rfl⟩;rw [hs] at h2 ⊢;have e:ps.take k++s :: ps.drop (k+1)=ps:=by rw [←hs,List.getElem_cons_drop,List.take_append_drop]
 have e2:hitL path ps=(ps.take k++s :: ps.drop (k+1)).find? fun s=>ofM s path:=by rw [e];rfl
 rw [e2,List.find?_append];rw [List.find?_eq_none.2 (fun x hx hm=>by rw [List.any_eq_false] at h1;exact h1 x hx hm)]
 simp [h2]
theorem find_not {ps:List By} {path:By} (h1:ps.any (fun s=>ofM s path)=false):hitL path ps=none:=by
 unfold hitL;exact List.find?_eq_none.2 (fun x hx hm=>by rw [List.any_eq_false] at h1;exact h1 x hx hm)
theorem matchC_any (g pb:Nat) (s path:By) (p:Pt) (w:World) (hp:PatIs w g s p) (hl:parseL s=some p) (hb:Has w pb 9 #[.string (ba path)]) :
 Calls Tryz.prog 157 #[ptrV g,.pointer (some ⟨pb,0,none⟩)] w fun e w'=>e=.returned (.bool (ofM s path))∧Below w.heap.size w w':=by
 have HM:=hid (match_any g s p path w hp);have ho:ofM s path=mB p.rooted p.hs path:=by unfold ofM;rw [hl]
 rw [←ho] at HM;have c0:=hb.at_ 0;generalize ofM s path=b at HM;unfold ptrV;clear hp hl ho hb;go_enter Tryz.func157,Tryz.ntmps157
 go_wp2_with (go_at_call 158;refine HM.out.mono ?_;rintro e1 w1 ⟨rfl,hb1⟩)
 go_ret;exact ⟨rfl,hb1⟩
set_option maxHeartbeats 1000000 in
theorem index_any (B:Nat) (v:Value) (ps:List By) (path:By) (pb:Nat) (w:World) (h:Pats B w v ps) (hb:Has w pb 9 #[.string (ba path)]) (hn:ps.length≤64) :
 Calls Tryz.prog 156 #[v,.func (.func 157) #[] #[.pointer (some ⟨pb,0,none⟩)]] w fun e w'=>(∃z:Int,e=.returned (.int .i64 z)∧((z = -1∧hitL path ps=none)∨∃(k:Nat) (s:By),ps[k]? = some s∧z=(k:Int)∧hitL path ps=some s))∧Below w.heap.size w w':=by
 by_cases h0:ps.length=0
 · obtain rfl:=List.length_eq_zero_iff.1 h0
   obtain ⟨A,c,rfl⟩:=h.form;clear h hb;go_enter Tryz.func156,Tryz.ntmps156
   go_wp2;refine wp_loop_rounds 1 ?_;rw [rounds_succ];go_wp2;go_ret;exact ⟨⟨-1,rfl,.inl ⟨rfl,rfl⟩⟩,Below.refl _ _⟩
 · obtain ⟨g,cap,rfl,hg,hcell⟩:=h.at_ (by omega)
   have HC:=hid hcell;have HBX:=hid hb;obtain ⟨n,hnp⟩:∃n,ps.length=n:=⟨_,rfl⟩;have HNP:=hid hnp;rw [hnp] at hn;rw [hnp];clear h hb hcell h0 hnp;go_enter Tryz.func156,Tryz.ntmps156
   go_wp2;go_loopw [5,8] (fun _ i wr=>∃k:Nat,i=.int .i64 (k:Int)∧k≤n∧Hid ((ps.take k).any (fun s=>ofM s path)=false)∧Hid (Below w.heap.size w wr))
    (fun _ i _=>n - (intOf i).toNat)
   case atStart=>exact ⟨0,rfl,Nat.zero_le _,rfl,Below.refl _ _⟩
   case round =>
    obtain ⟨k,rfl,hk,HT,HB⟩:=hrel;by_cases hlt:k < n
    · have hlt2:k < ps.length:=by rw [HNP.out];exact hlt
      obtain ⟨pg,p,hc0,hpat,hpl⟩:=HC.out k hlt2;have c0:=(HB.out.cell (p:=⟨g,k,none⟩) hg).trans hc0;have CP:=hid (matchC_any pg pb ps[k] path p wr (hpat.stays HB.out) hpl (HBX.out.stays HB.out));have HN:=hid (any_take_succ ps (fun s=>ofM s path) k hlt2)
      unfold ptrV at c0 CP
      cases hbv:ofM ps[k] path with
      | true =>
       have HA:Hid (hitL path ps=some ps[k]):=find_at hlt2 HT.out hbv;rw [hbv] at CP;clear hbv hpat hpl hc0;go_wp2_with (go_at_call 157;refine CP.out.mono ?_;rintro e1 w1 ⟨rfl,hb1⟩)
       go_ret;exact ⟨⟨(k:Int),rfl,.inr ⟨k,_,List.getElem?_eq_getElem hlt2,rfl,HA.out⟩⟩,HB.out.thenG hb1⟩
      | false =>
       have HN2:Hid ((ps.take (k+1)).any (fun s=>ofM s path)=false):=by show _=_;rw [HN.out,HT.out,hbv];rfl
       rw [hbv] at CP;clear hbv HN hpat hpl hc0;go_wp2_with (go_at_call 157;refine CP.out.mono ?_;rintro e1 w1 ⟨rfl,hb1⟩)
       exact ⟨⟨k+1,by go_num,by omega,HN2.out,HB.out.thenG hb1⟩,by simp [intOf];omega⟩
    · have HK:Hid (k=ps.length):=by show _=_;rw [HNP.out];omega
      go_wp2;go_ret;refine ⟨⟨-1,rfl,.inl ⟨rfl,?_⟩⟩,HB.out⟩;have:=HT.out;rw [HK.out,List.take_length] at this;exact find_not this
set_option maxHeartbeats 2000000 in
theorem imatch_any (B L:Nat) (ps:List By) (path:By) (w:World) (hG:Gd w) (h:ListIs B w L ps) (hn:ps.length≤64) (hp:path.length≤4000) :
 Calls Tryz.prog 100 #[ptrV L,.string (ba path)] w fun e w'=>e=.returned (.tuple #[.bool (matL ps path).1,.bool (matL ps path).2])∧Below w.heap.size w w':=by
 obtain ⟨W0,hW0⟩:∃W0,w.alloc (.cells #[.string (ba path)] 9)=W0:=⟨_,rfl⟩;have b0:Below w.heap.size w W0:=hW0▸(Below.refl _ _).alloc (Nat.le_refl _) _;have p0:Has W0 w.heap.size 9 #[.string (ba path)]:=hW0▸Has.fresh _ _ _;have HMAY:=hid (may_any (ba path) W0 (hG.kept b0) (by rw [ba_size];exact hp))
 have HB0:=hid b0;have HP0:=hid p0;have HL:=hid (h.below b0);have HNL:=hid hn;have cp0:=p0.at_ 0
 cases hm:mayB path with
 | false =>
  have HR:Hid (matL ps path=(false,false)):=by show _=_;unfold matL;rw [if_neg (by rw [hm];decide)]
  have hmm:mayB (tl (ba path))=false:=hm;rw [hmm] at HMAY;rw [HR.out];unfold ptrV;clear h hG hn hp b0 p0 hm hmm;go_enter Tryz.func100,Tryz.ntmps100
  go_wp2_with (go_at_call 99;refine HMAY.out.mono ?_;rintro e1 w1 ⟨rfl,hb1⟩)
  go_ret2;exact ⟨rfl,HB0.out.thenG hb1⟩
 | true =>
  have HR:Hid (matL ps path=match hitL path ps with | none=>(false,false) | some s=>if negM s then (false,false) else (true,delM s)):=by show _=_;unfold matL;rw [if_pos hm]
  have hmm:mayB (tl (ba path))=true:=hm;rw [hmm] at HMAY;obtain ⟨r,HRR⟩:∃r,Hid (matL ps path=r):=⟨_,rfl⟩;rw [HRR.out];rw [HRR.out] at HR;unfold ptrV;clear h hG hn hp b0 hm hmm;go_enter Tryz.func100,Tryz.ntmps100
  go_wp2_with (fail)
  refine HMAY.out.mono ?_;rintro e1 w1 ⟨rfl,hb1⟩;have HB1:=hid hb1;have HL1:=hid (HL.out.below hb1);obtain ⟨v,hLh,hLp⟩:=HL1.out;obtain ⟨A,c,hv⟩:=hLp.form;obtain ⟨n,hnp⟩:∃n,ps.length=n:=⟨_,rfl⟩;rw [hnp] at hv;subst hv;have HNP:=hid hnp;have HIX:=hid (index_any B (.slice A n c) ps path w.heap.size w1 hLp (HP0.out.stays hb1) HNL.out);have HLH:=hid hLh;have HLP:=hid hLp;have cL:=hLh.at_ 0;clear hb1 hLp hLh hnp;go_wp2_with (fail)
  refine HIX.out.mono ?_;rintro e2 w2 ⟨⟨z,rfl,hz⟩,hb2⟩;have HB2:=hid hb2;have cL2:=(HLH.out.stays hb2).at_ 0;rcases hz with ⟨rfl,hz⟩ | ⟨k,s,hks,rfl,hz⟩
  · have HR2:Hid (r=(false,false)):=by show _=_;rw [HR.out,hz]
    clear hb2 hz;go_wp2;go_ret2;refine ⟨by rw [HR2.out];rfl,(HB0.out.thenG HB1.out).thenG HB2.out⟩
  · obtain ⟨hk,hks⟩:=List.getElem?_eq_some_iff.1 hks
    obtain ⟨g,cap,hge,hg,hcell⟩:=HLP.out.at_ (by omega)
    rw [HNP.out] at hge;simp only [Value.slice.injEq,true_and] at hge;obtain ⟨rfl,rfl⟩:=hge;obtain ⟨pg,p,hc0,hpat,hpl⟩:=hcell k hk;rw [hks] at hpat hpl;have c0:=(hb2.cell (p:=⟨g,k,none⟩) hg).trans hc0;have HNEG:=hid (Negated_yes (hpat.stays hb2));have HDEL:=hid (Deletable_yes (hpat.stays hb2));have hne:(p.m &&& 1 != 0)=negM s:=by unfold negM;rw [hpl]
    have hde:(p.m &&& 4 != 0)=delM s:=by unfold delM;rw [hpl]
    rw [hne] at HNEG;rw [hde] at HDEL;have hkn:(k:Int) < (n:Int):=by have:=HNP.out;omega
    rw [hz] at HR;unfold ptrV at c0
    cases hng:negM s with
    | true =>
     rw [hng] at HNEG;have HR2:Hid (r=(false,false)):=by show _=_;rw [HR.out];simp only;rw [if_pos hng]
     clear hb2 hz hcell hc0 hpat hpl hne hde hng hks hk;go_wp2_with (go_at_call 159;refine HNEG.out.mono ?_;rintro e3 w3 ⟨rfl,rfl⟩)
     go_ret2;refine ⟨by rw [HR2.out];rfl,(HB0.out.thenG HB1.out).thenG HB2.out⟩
    | false =>
     rw [hng] at HNEG;have HR2:Hid (r=(true,delM s)):=by show _=_;rw [HR.out];simp only;rw [if_neg (by rw [hng];decide)]
     generalize delM s=dl at HDEL HR2;clear hb2 hz hcell hc0 hpat hpl hne hde hng hks hk;go_wp2_with (first
      | (go_at_call 159;refine HNEG.out.mono ?_;rintro e3 w3 ⟨rfl,rfl⟩)
      | (go_at_call 160;refine HDEL.out.mono ?_;rintro e3 w3 ⟨rfl,rfl⟩))
     go_ret2;refine ⟨by rw [HR2.out];rfl,(HB0.out.thenG HB1.out).thenG HB2.out⟩
end Go.Proofs.YtahkcemdbfjilaaGreatDoor.Glob
namespace Go.Proofs.YtahkcemdbfjilaaGreatDoor
open Go.RowKit Go.Maps
set_option maxHeartbeats 400000 in
theorem find_big (s:ByteArray) (w:World) (hs:4000 < s.size) :
 Calls Tryz.prog 74 #[.string s] w fun e w'=>e=.returned (.agg #[.string ⟨#[]⟩,.string ⟨#[]⟩])∧Below w.heap.size w w':=by
 have h1:(160:Int) < (s.size:Int):=by omega
 clear hs;go_enter Tryz.func74,Tryz.ntmps74
 go_wp2;exact bodyPost_ret (results_cell_row rfl _ _ w.heap.size 156 #[.string ⟨#[]⟩,.string ⟨#[]⟩] (0,0) _ rfl (Has.fresh _ _ _) Tryz.underlying156 rfl iPlace) rfl ⟨rfl,(Below.refl _ _).alloc (Nat.le_refl _) _⟩
theorem mayB_big {l:By} (h:4000 < l.length):mayB l=false:=by
 cases e:mayB l with
 | false=>rfl
 | true=>have:=(may_parts e).1;omega
set_option maxHeartbeats 400000 in
theorem mayAll_any (p:By) (b:Bool) (hb:mayB p=b) (w:World) (hG:Gd w):Calls Tryz.prog 99 #[kS p] w fun e w'=>e=.returned (.bool b)∧Below w.heap.size w w':=by
 by_cases h:p.length≤4000
 · exact mayk_any p b hb w hG h
 · have e:b=false:=hb.symm.trans (mayB_big (by omega))
   subst e;have C:=hid (find_big (ba p) w (by rw [ba_size];omega))
   clear hG hb h;go_enter Tryz.func99,Tryz.ntmps99
   go_wp2_with (go_at_call 74;refine C.out.mono ?_;rintro e1 w1 ⟨rfl,hb1⟩;have B1:=hid hb1;clear hb1)
   go_ret;exact ⟨rfl,B1.out⟩
set_option maxHeartbeats 400000 in
theorem nowhere_any (p:Nat) (s:By) (w:World) (hG:Gd w):Calls Tryz.prog 60 #[.pointer (some ⟨p,0,none⟩),kS s] w fun e w'=>e=.returned (.int .i64 (if mayB s then 0 else 10))∧Below w.heap.size w w':=by
 cases hm:mayB s with
 | true =>
  have C:=hid (mayAll_any s true hm w hG);clear hm hG;go_enter Tryz.func60,Tryz.ntmps60
  go_wp2_with (go_at_call 99;refine C.out.mono ?_;rintro e1 w1 ⟨rfl,hb1⟩;have B1:=hid hb1;clear hb1)
  go_ret;exact ⟨rfl,B1.out⟩
 | false =>
  have C:=hid (mayAll_any s false hm w hG);clear hm hG;go_enter Tryz.func60,Tryz.ntmps60
  go_wp2_with (go_at_call 99;refine C.out.mono ?_;rintro e1 w1 ⟨rfl,hb1⟩;have B1:=hid hb1;clear hb1)
  go_ret;exact ⟨rfl,B1.out⟩
def rootE (L:Tr) (root:By):Int:=if mayB root then noDirE L root else 10
set_option maxHeartbeats 1000000 in
theorem noRoot_any {own:Nat→Prop} {w:World} {p:Nat} {M:Mo} (h:Dsk own w p M) (hG:Gd w) (root:By):Calls Tryz.prog 50 #[.pointer (some ⟨p,0,none⟩),kS root] w fun e w'=>e=.returned (.int .i64 (rootE M.now root))∧Below w.heap.size w w':=by
 have C:=hid (nowhere_any p root w hG);unfold rootE
 cases hm:mayB root with
 | false =>
  rw [hm] at C;clear h hG hm;go_enter Tryz.func50,Tryz.ntmps50
  go_wp2_with (go_at_call 60;refine C.out.mono ?_;rintro e1 w1 ⟨rfl,hb1⟩;have B1:=hid hb1;clear hb1)
  go_ret;exact ⟨rfl,B1.out⟩
 | true =>
  rw [hm] at C;have hne:=may_ne hm;have hle:root.length≤4000:=by have:=(may_parts hm).1;omega
  obtain ⟨c,HC⟩:∃c,Hid (noDirE M.now root=c):=⟨_,rfl⟩;have CD:Hid (∀W,Below w.heap.size w W→Calls Tryz.prog 98 #[.pointer (some ⟨p,0,none⟩),kS root] W fun e w'=>∃A c' n,e=.returned (.tuple #[.slice A n c',.int .i64 c])∧Below W.heap.size W w'):=fun W hb=>by
   refine (dList_any (h.on hb) (hG.kept hb) root hle).mono ?_;rintro e w' ⟨A,c',g,rfl,_,hb'⟩;refine ⟨A,c',(listM M.now root).1.length,?_,hb'⟩;have e2:(listM M.now root).2=c:=by
    unfold listM;rw [hm];simp only [Bool.not_true,Bool.and_false,Bool.false_eq_true,if_false];rw [←HC.out];split
    · rename_i k;rw [k]
    · rfl
   rw [e2]
  rw [HC.out];clear h hG hm hne hle;go_enter Tryz.func50,Tryz.ntmps50
  go_wp2_with fail
  refine C.out.mono ?_;rintro e1 w1 ⟨rfl,hb1⟩;have B1:=hid hb1;clear hb1;go_wp2_with fail
  refine (CD.out _ B1.out).mono ?_;rintro e2 w2 ⟨A,c',n,rfl,hb2⟩;have B2:Hid (Below w.heap.size w w2):=B1.out.trans (hb2.mono B1.out.size);clear hb2;go_wp2;go_ret;exact ⟨rfl,B2.out⟩
inductive Lst (w:World):Value→Option (List By)→Prop
 | none:Lst w (.pointer Option.none) Option.none
 | some (B L:Nat) (ps:List By):Glob.ListIs B w L ps→ps.length≤64→Lst w (.pointer (Option.some ⟨L,0,Option.none⟩)) (Option.some ps)
theorem Lst.on {w w':World} {v:Value} {lo:Option (List By)} (h:Lst w v lo) (hb:Below w.heap.size w w'):Lst w' v lo:=by
 cases h with
 | none=>exact .none
 | some B L ps h1 h2=>exact .some B L ps (h1.below hb) h2
def igB (lo:Option (List By)) (p:By):Bool:=match lo with
 | none=>false
 | some ps=>(Glob.matL ps p).1
set_option maxHeartbeats 400000 in
theorem imatch_nil (p:By) (w:World):Calls Tryz.prog 100 #[.pointer none,kS p] w fun e w'=>e=.returned (.tuple #[.bool false,.bool false])∧Below w.heap.size w w':=by
 go_enter Tryz.func100,Tryz.ntmps100
 go_wp2;go_ret2;exact ⟨rfl,(Below.refl _ _).alloc (Nat.le_refl _) _⟩
set_option maxHeartbeats 400000 in
theorem isIgnored_any {w:World} {v:Value} {lo:Option (List By)} (h:Lst w v lo) (hG:Gd w) (p:By) (hp:p.length≤4000):Calls Tryz.prog 52 #[v,kS p] w fun e w'=>e=.returned (.bool (igB lo p))∧Below w.heap.size w w':=by
 have C:Hid (Calls Tryz.prog 100 #[v,kS p] w fun e w'=>∃d,e=.returned (.tuple #[.bool (igB lo p),.bool d])∧Below w.heap.size w w'):=by
  cases h with
  | none=>exact (imatch_nil p w).mono fun e w' ⟨h1,h2⟩=>⟨false,h1,h2⟩
  | some B L ps h1 h2 =>
   exact (Glob.imatch_any B L ps p w hG h1 h2 hp).mono fun e w' ⟨h1,h2⟩=>⟨_,h1,h2⟩
 generalize igB lo p=b at C;clear h hG hp;go_enter Tryz.func52,Tryz.ntmps52
 go_wp2_with (go_at_call 100;refine C.out.mono ?_;rintro e1 w1 ⟨d,rfl,hb1⟩;have B1:=hid hb1;clear hb1)
 go_ret;exact ⟨rfl,B1.out⟩
set_option maxHeartbeats 400000 in
theorem isBad_any (n:Nd) (hd:n.data.length≤140737488355328) (w:World):Calls Tryz.prog 53 #[nodeV n] w fun e w'=>e=.returned (.bool (badN n))∧Below w.heap.size w w':=by
 obtain ⟨k,d,x,t⟩:=n;have HB:Hid (badN ⟨k,d,x,t⟩=decide ((4096:Int) < (((ba d).size:Nat):Int))):=by
  show _=_
  unfold badN;rw [ba_size];simp only [decide_eq_decide];omega
 rw [HB.out];show Calls Tryz.prog 53 #[.agg #[.int .i64 k,kS d,kS x,.int .i64 t]] w _
 go_enter Tryz.func53,Tryz.ntmps53
 go_wp2;go_ret;exact ⟨rfl,(Below.refl _ _).alloc (Nat.le_refl _) _⟩
end Go.Proofs.YtahkcemdbfjilaaGreatDoor
namespace Go.Proofs.YtahkcemdbfjilaaGreatDoor
open Go.RowKit Go.Maps
def StrR (B:Nat) (w:World) (v:Value) (xs:List By):Prop:=w.ownsRow B 9 1 v xs.length (xs.map kS)
theorem StrR.nil (B:Nat) (w:World):StrR B w (.slice none 0 0) []:=World.ownsRow_nil _ _ _ _
theorem StrR.form {B:Nat} {w:World} {v:Value} {xs:List By} (h:StrR B w v xs):∃A c,v=.slice A xs.length c:=by
 rcases h.2 with ⟨h1,h2⟩ | ⟨g,c,cur,h1,_⟩
 · exact ⟨none,0,by rw [h1,h2]⟩
 · exact ⟨some ⟨g,0,none⟩,c,h1⟩
def Kq (w w':World):Prop:=∀(j:Nat) (cs:Array Value) (t:TypeId) (q:Nat × Nat),w.heap[j]? = some (Obj.cells cs t q)→w'.heap[j]? = some (Obj.cells cs t q)
theorem Kq.of_below {w w':World} (h:Below w.heap.size w w'):Kq w w':=fun j _ _ _ ho=>(h.block j (Array.getElem?_eq_some_iff.1 ho).1).trans ho
theorem Kq.of_own {w w':World} {row:Option Nat} (hg:w.grownBy w' row) (hr:∀r,row=some r→∃o:Obj,w.heap[r]? = some o∧o.isCells=false):Kq w w':=fun j cs t q ho=>by
 refine (hg.block j (Array.getElem?_eq_some_iff.1 ho).1 (fun e=>?_)).trans ho
 obtain ⟨o,h1,h2⟩:=hr j e.symm;rw [ho] at h1;injection h1 with h1;rw [←h1] at h2;cases h2
theorem Has.kq {w w':World} {g:Nat} {t:TypeId} {cs:Array Value} (h:Has w g t cs) (k:Kq w w'):Has w' g t cs:=k g cs t _ h
theorem own_kq {B:Nat} {w w':World} {e:TypeId} {s n:Nat} {v:Value} {xs:List Value} (h:w.ownsRow B e s v n xs) (k:Kq w w'):w'.ownsRow B e s v n xs:=row_of h fun g hg=>by
 obtain ⟨cur,hc⟩:=row_kindN h hg;exact (k g cur _ _ hc).trans hc.symm
def pcells (ps:List (At × Value)):List Value:=ps.flatMap fun y=>(recN y.1.1 y.1.2 y.2).toList
theorem pcells_snoc (ps:List (At × Value)) (y:At × Value):pcells (ps++[y])=pcells ps++(recN y.1.1 y.1.2 y.2).toList:=by simp [pcells]
structure RecP (B:Nat) (w:World) (v:Value) (ps:List (At × Value)):Prop where
 own:w.ownsRow B 58 27 v ps.length (pcells ps)
 dg:∀y∈ps,Dgs B w y.2 (hasN y.1.2)
def RecR (B:Nat) (w:World) (v:Value) (l:Tr):Prop:=∃ps:List (At × Value),ps.map (·.1)=l∧RecP B w v ps
theorem RecR.nil (B:Nat) (w:World):RecR B w (.slice none 0 0) []:=⟨[],rfl,World.ownsRow_nil _ _ _ _,fun y h=>by cases h⟩
theorem Dgs.kq {B:Nat} {w w':World} {v:Value} {hs:List (List UInt8)} (h:Dgs B w v hs) (k:Kq w w'):Dgs B w' v hs:=⟨own_kq h.own k,h.len⟩
theorem RecR.kq {B:Nat} {w w':World} {v:Value} {l:Tr} (h:RecR B w v l) (k:Kq w w'):RecR B w' v l:=by
 obtain ⟨ps,h1,h2,h3⟩:=h;exact ⟨ps,h1,own_kq h2 k,fun y hy=>(h3 y hy).kq k⟩
theorem RecR.form {B:Nat} {w:World} {v:Value} {l:Tr} (h:RecR B w v l):∃A c,v=.slice A l.length c:=by
 obtain ⟨ps,h1,h2,_⟩:=h;have hl:ps.length=l.length:=by rw [←h1,List.length_map]
 rw [hl] at h2;rcases h2.2 with ⟨e1,e2⟩ | ⟨g,c,cur,e1,_⟩
 · exact ⟨none,0,by rw [e1,e2]⟩
 · exact ⟨some ⟨g,0,none⟩,c,e1⟩
theorem StrR.kq {B:Nat} {w w':World} {v:Value} {xs:List By} (h:StrR B w v xs) (k:Kq w w'):StrR B w' v xs:=own_kq h k
theorem StrR.mono {B B':Nat} {w:World} {v:Value} {xs:List By} (h:StrR B w v xs) (hb:B'≤B):StrR B' w v xs:=by
 refine ⟨h.1,?_⟩;rcases h.2 with h1 | ⟨g,c,cur,h1,h2,h3⟩
 · exact .inl h1
 · exact .inr ⟨g,c,cur,h1,Nat.le_trans hb h2,h3⟩
theorem RecR.mono {B B':Nat} {w:World} {v:Value} {l:Tr} (h:RecR B w v l) (hb:B'≤B):RecR B' w v l:=by
 obtain ⟨ps,h1,h2,h3⟩:=h;refine ⟨ps,h1,⟨h2.1,?_⟩,fun y hy=>(h3 y hy).mono hb⟩
 rcases h2.2 with h4 | ⟨g,c,cur,h4,h5,h6⟩
 · exact .inl h4
 · exact .inr ⟨g,c,cur,h4,Nat.le_trans hb h5,h6⟩
theorem apart_type {w:World} {B B':Nat} {e e':TypeId} {s s' n n':Nat} {u v:Value} {xs ys:List Value} (h:w.ownsRow B e s u n xs) (k:w.ownsRow B' e' s' v n' ys) (hne:e≠e'):∀b,u.ownBlock=some b→v.ownBlock≠some b:=by
 intro b h1 h2;obtain ⟨c1,k1⟩:=row_kindN h h1;obtain ⟨c2,k2⟩:=row_kindN k h2;rw [k1] at k2;injection k2 with k2;injection k2 with _ k2;exact hne k2
theorem has_ne {w:World} {g g':Nat} {t t':TypeId} {cs cs':Array Value} (h:Has w g t cs) (k:Has w g' t' cs') (hne:t≠t'):g≠g':=by
 rintro rfl;unfold Has at h k;rw [h] at k;injection k with k;injection k with _ k;exact hne k
theorem apart_has {w:World} {B:Nat} {e t:TypeId} {s n g:Nat} {u:Value} {xs:List Value} {cs:Array Value} (h:w.ownsRow B e s u n xs) (k:Has w g t cs) (hne:e≠t):u.ownBlock≠some g:=by
 intro h1;obtain ⟨c1,k1⟩:=row_kindN h h1;unfold Has at k;rw [k1] at k;injection k with k;injection k with _ k;exact hne k
def lsOf (f:Fnd) (k:Nat):List By:=if k=1 then f.temps else if k=2 then f.ign else if k=3 then f.bad else []
structure WSt (w0 W:World) (B b5 b6 b9 b10:Nat) (v:Value) (it:Tr) (ls:Nat→List By) (over:By) (vi:Value) (vs:Nat→Value):Prop where
 f:Has W b9 39 #[vi,vs 1,vs 2,vs 3]
 o:Has W b10 9 #[kS over]
 l:Has W b5 30 #[v]
 r:Has W b6 39 #[.slice none 0 0,.slice none 0 0,.slice none 0 0,.slice none 0 0]
 items:RecR B W vi it
 str:∀k,1≤k→k≤3→StrR B W (vs k) (ls k)
 ap:∀j k,1≤j→j≤3→1≤k→k≤3→j≠k→∀b,(vs j).ownBlock=some b→(vs k).ownBlock≠some b
 bl:Below w0.heap.size w0 W
 l5:w0.heap.size≤b5∧b5 < B
 l6:b6≠b9
 l9:w0.heap.size≤b9∧b9 < B
 l10:w0.heap.size≤b10∧b10 < B
 hB:B≤W.heap.size
section
variable {w0 W:World} {B b5 b6 b9 b10:Nat} {v:Value} {it:Tr} {ls:Nat→List By} {over:By} {vi:Value} {vs:Nat→Value}
theorem WSt.kq (h:WSt w0 W B b5 b6 b9 b10 v it ls over vi vs) {W':World} (k:Kq W W') (hb:Below w0.heap.size w0 W') (hs:W.heap.size≤W'.heap.size):WSt w0 W' B b5 b6 b9 b10 v it ls over vi vs where
 f:=h.f.kq k
 o:=h.o.kq k
 l:=h.l.kq k
 r:=h.r.kq k
 items:=h.items.kq k
 str j h1 h2:=(h.str j h1 h2).kq k
 ap:=h.ap
 bl:=hb
 l5:=h.l5
 l6:=h.l6
 l9:=h.l9
 l10:=h.l10
 hB:=Nat.le_trans h.hB hs
theorem WSt.on (h:WSt w0 W B b5 b6 b9 b10 v it ls over vi vs) {W':World} (hb:Below W.heap.size W W'):WSt w0 W' B b5 b6 b9 b10 v it ls over vi vs :=
 h.kq (Kq.of_below hb) (h.bl.trans (hb.mono h.bl.size)) hb.size
theorem WSt.forms (h:WSt w0 W B b5 b6 b9 b10 v it ls over vi vs):(∃A c,vi=.slice A it.length c)∧∀k,1≤k→k≤3→∃A c,vs k=.slice A (ls k).length c :=
 ⟨h.items.form,fun k h1 h2=>(h.str k h1 h2).form⟩
theorem WSt.ne910 (h:WSt w0 W B b5 b6 b9 b10 v it ls over vi vs):b9≠b10:=by
 rintro rfl;have h1:=h.f;have h2:=h.o;unfold Has at h1 h2;rw [h1] at h2;injection h2 with h2;injection h2 with _ h2;revert h2;decide
theorem WSt.ne59 (h:WSt w0 W B b5 b6 b9 b10 v it ls over vi vs):b5≠b9:=by
 rintro rfl;have h1:=h.f;have h2:=h.l;unfold Has at h1 h2;rw [h1] at h2;injection h2 with h2;injection h2 with _ h2;revert h2;decide
theorem WSt.ne510 (h:WSt w0 W B b5 b6 b9 b10 v it ls over vi vs):b5≠b10:=by
 rintro rfl;have h1:=h.o;have h2:=h.l;unfold Has at h1 h2;rw [h1] at h2;injection h2 with h2;injection h2 with _ h2;revert h2;decide
theorem WSt.ne610 (h:WSt w0 W B b5 b6 b9 b10 v it ls over vi vs):b6≠b10:=by
 rintro rfl;have h1:=h.o;have h2:=h.r;unfold Has at h1 h2;rw [h1] at h2;injection h2 with h2;injection h2 with _ h2;revert h2;decide
theorem WSt.store (h:WSt w0 W B b5 b6 b9 b10 v it ls over vi vs) {W2:World} (i:Nat) (u:Value) {it':Tr} {ls':Nat→List By} {vi':Value} {vs':Nat→Value} (hf:Has W2 b9 39 #[vi,vs 1,vs 2,vs 3]) (ho:Has W2 b10 9 #[kS over]) (hl:Has W2 b5 30 #[v]) (hr:Has W2 b6 39 #[.slice none 0 0,.slice none 0 0,.slice none 0 0,.slice none 0 0])
 (hc:(#[vi,vs 1,vs 2,vs 3]:Array Value).setIfInBounds i u=#[vi',vs' 1,vs' 2,vs' 3]) (hi:RecR B W2 vi' it') (hs:∀k,1≤k→k≤3→StrR B W2 (vs' k) (ls' k))
 (ha:∀j k,1≤j→j≤3→1≤k→k≤3→j≠k→∀b,(vs' j).ownBlock=some b→(vs' k).ownBlock≠some b) (hb:Below w0.heap.size w0 W2) (hsz:W.heap.size≤W2.heap.size) :
 WSt w0 (W2.setCell ⟨b9,i,none⟩ u) B b5 b6 b9 b10 v it' ls' over vi' vs' where
 f:=by have:=hf.put i u;rw [hc] at this;exact this
 o:=ho.other (fun e=>h.ne910 e.symm) _
 l:=hl.other h.ne59 _
 r:=hr.other h.l6 _
 items:=by
  obtain ⟨ps,h1,h2,h3⟩:=hi;refine ⟨ps,h1,row_of h2 fun b hb=>Below.heap_setCell W2 ⟨b9,i,none⟩ u b ?_,fun y hy=>⟨row_of (h3 y hy).own fun b hb=>Below.heap_setCell W2 ⟨b9,i,none⟩ u b ?_,(h3 y hy).len⟩⟩
  · rintro rfl;exact apart_has h2 hf (by decide) hb
  · rintro rfl;exact apart_has (h3 y hy).own hf (by decide) hb
 str k h1 h2:=row_of (hs k h1 h2) fun b hb=>Below.heap_setCell W2 ⟨b9,i,none⟩ u b (by rintro rfl;exact apart_has (hs k h1 h2) hf (by decide) hb)
 ap:=ha
 bl:=hb.setCell (p:=⟨b9,i,none⟩) h.l9.1 _
 l5:=h.l5
 l6:=h.l6
 l9:=h.l9
 l10:=h.l10
 hB:=by have:=h.hB;simp;omega
theorem WSt.setO (h:WSt w0 W B b5 b6 b9 b10 v it ls over vi vs) (p:By):WSt w0 (W.setCell ⟨b10,0,none⟩ (kS p)) B b5 b6 b9 b10 v it ls p vi vs where
 f:=h.f.other h.ne910 _
 o:=h.o.put 0 _
 l:=h.l.other h.ne510 _
 r:=h.r.other h.ne610 _
 items:=by
  obtain ⟨ps,h1,h2,h3⟩:=h.items;refine ⟨ps,h1,row_of h2 fun b hb=>Below.heap_setCell W ⟨b10,0,none⟩ (kS p) b ?_,fun y hy=>⟨row_of (h3 y hy).own fun b hb=>Below.heap_setCell W ⟨b10,0,none⟩ (kS p) b ?_,(h3 y hy).len⟩⟩
  · rintro rfl;exact apart_has h2 h.o (by decide) hb
  · rintro rfl;exact apart_has (h3 y hy).own h.o (by decide) hb
 str k h1 h2:=row_of (h.str k h1 h2) fun b hb=>Below.heap_setCell W ⟨b10,0,none⟩ (kS p) b (by
  rintro rfl;have:=(World.ownsRow.lt (h.str k h1 h2) b hb).1;have:=h.l10.2;omega)
 ap:=h.ap
 bl:=h.bl.setCell (p:=⟨b10,0,none⟩) h.l10.1 _
 l5:=h.l5
 l6:=h.l6
 l9:=h.l9
 l10:=h.l10
 hB:=by have:=h.hB;simpa using this
def updV {α:Type} (f:Nat→α) (k:Nat) (a:α):Nat→α:=fun j=>if j=k then a else f j
theorem upd_same {α:Type} (f:Nat→α) (k:Nat) (a:α):updV f k a k=a:=if_pos rfl
theorem upd_other {α:Type} (f:Nat→α) {j k:Nat} (a:α) (h:j≠k):updV f k a j=f j:=if_neg h
theorem cells_upd (vi:Value) (vs:Nat→Value) {k:Nat} (h1:1≤k) (h2:k≤3) (u:Value):(#[vi,vs 1,vs 2,vs 3]:Array Value).setIfInBounds k u=#[vi,updV vs k u 1,updV vs k u 2,updV vs k u 3]:=by
 rcases (by omega:k=1∨k=2∨k=3) with rfl | rfl | rfl<;>rfl
theorem WSt.app (h:WSt w0 W B b5 b6 b9 b10 v it ls over vi vs) {k:Nat} (h1:1≤k) (h2:k≤3) (p:By) (hn:(ls k).length≤100000) :
 ∃A c W2,(Builtin.append_ #[34,34] 34 #[vs k,.slice (some ⟨W.heap.size,0,none⟩) 1 1]).run Tryz.prog (W.alloc (.cells #[kS p] 9))=.ok (.slice A ((ls k).length+1) c) W2 ∧
  Has W2 b9 39 #[vi,vs 1,vs 2,vs 3]∧Has W2 b10 9 #[kS over]∧KeepsFrom B W W2∧KpE W W2 ∧
  WSt w0 (W2.setCell ⟨b9,k,none⟩ (.slice A ((ls k).length+1) c)) B b5 b6 b9 b10 v it (updV ls k (ls k++[p])) over vi (updV vs k (.slice A ((ls k).length+1) c)):=by
 obtain ⟨i0,hi,hz0,hz1,hz2⟩:=info_parts infoStr;have hb0:Below W.heap.size W (W.alloc (.cells #[kS p] 9)):=(Below.refl _ _).alloc (Nat.le_refl _) _;have hr0:StrR B (W.alloc (.cells #[kS p] 9)) (vs k) (ls k):=(h.str k h1 h2).kq (Kq.of_below hb0);have hB:=h.hB;obtain ⟨v',W2,hr,ho,hg,_,hv⟩:=run_append_own_at (P:=Tryz.prog) (W.alloc (.cells #[kS p] 9)) B 34 34 9 i0 (.string ⟨#[]⟩) 1 16 Tryz.underlying34 hi hz0 hz1 hz2 rfl (by decide) (vs k) (ls k).length ((ls k).map kS) hr0 ⟨W.heap.size,0,none⟩ 1 1 [kS p] rfl
  (fun j u hj=>by rw [add_at,Nat.zero_add,(Has.fresh W 9 #[kS p]).at_ j,←Array.getElem?_toList];exact hj) (kS_one p) (by unfold maxLen;omega) (by omega) (by simp;omega)
 have ho':StrR B W2 v' (ls k++[p]):=by unfold StrR;rw [List.length_append,List.map_append];exact ho
 obtain ⟨A,c,rfl⟩:=ho'.form;have hlen:(ls k++[p]).length=(ls k).length+1:=by simp
 rw [hlen] at hr ho' hv;have hst:∀g,g < W.heap.size→(vs k).ownBlock≠some g→W2.heap[g]? = W.heap[g]?:=fun g hg1 hn=>(hg.block g (by simp;omega) (fun e=>hn e.symm)).trans (hb0.block g hg1)
 have hs2:W.heap.size≤W2.heap.size:=Nat.le_trans hb0.size hg.size;have keepH:∀{g:Nat} {t:TypeId} {cs:Array Value},Has W g t cs→t≠9→Has W2 g t cs:=fun hh ht=>(hst _ hh.inside (apart_has (h.str k h1 h2) hh (fun e=>ht e.symm))).trans hh
 have o2:Has W2 b10 9 #[kS over]:=(hst b10 h.o.inside (fun e=>by have:=(World.ownsRow.lt (h.str k h1 h2) b10 e).1;have:=h.l10.2;omega)).trans h.o
 have f2:=keepH h.f (by decide)
 have l2:=keepH h.l (by decide)
 have r2:=keepH h.r (by decide)
 have i2:RecR B W2 vi it:=by
  obtain ⟨ps,e1,e2,e3⟩:=h.items;refine ⟨ps,e1,row_of e2 fun b hb=>hst b (World.ownsRow.lt e2 b hb).2 (apart_type e2 (h.str k h1 h2) (by decide) b hb),fun y hy=>⟨row_of (e3 y hy).own fun b hb=>hst b (World.ownsRow.lt (e3 y hy).own b hb).2 (apart_type (e3 y hy).own (h.str k h1 h2) (by decide) b hb),(e3 y hy).len⟩⟩
 have hs:∀j,1≤j→j≤3→StrR B W2 (updV vs k (.slice A ((ls k).length+1) c) j) (updV ls k (ls k++[p]) j):=fun j j1 j2=>by
  by_cases e:j=k
  · subst e;rw [upd_same,upd_same];exact ho'
  · rw [upd_other _ _ e,upd_other _ _ e]
    exact row_of (h.str j j1 j2) fun b hb=>hst b (World.ownsRow.lt (h.str j j1 j2) b hb).2 (h.ap j k j1 j2 h1 h2 e b hb)
 have ha:∀i j,1≤i→i≤3→1≤j→j≤3→i≠j→∀b,(updV vs k (.slice A ((ls k).length+1) c) i).ownBlock=some b→(updV vs k (.slice A ((ls k).length+1) c) j).ownBlock≠some b:=by
  have hx:∀j,1≤j→j≤3→j≠k→∀b,(vs j).ownBlock=some b→(Value.slice A ((ls k).length+1) c).ownBlock≠some b:=fun j j1 j2 e b hb hb2=>by
   rcases hv with k1 | k1
   · rw [k1] at hb2;exact h.ap j k j1 j2 h1 h2 e b hb hb2
   · rw [k1] at hb2
     injection hb2 with hb2;have:=(World.ownsRow.lt (h.str j j1 j2) b hb).2;simp at hb2;omega
  intro i j i1 i2 j1 j2 hne b hb hb2;by_cases e:i=k
  · subst e
    rw [upd_same] at hb;rw [upd_other _ _ (fun e=>hne e.symm)] at hb2
    exact hx j j1 j2 (fun e=>hne e.symm) b hb2 hb
  · rw [upd_other _ _ e] at hb
    by_cases e2:j=k
    · subst e2
      rw [upd_same] at hb2;exact hx i i1 i2 e b hb hb2
    · rw [upd_other _ _ e2] at hb2
      exact h.ap i j i1 i2 j1 j2 hne b hb hb2
 have bl2:Below w0.heap.size w0 W2:=(h.bl.alloc h.bl.size _).grown hg (by have:=h.bl.size;simp;omega) (fun g hg1=>by have:=(World.ownsRow.lt hr0 g hg1).1;have:=h.l9;omega)
 refine ⟨A,c,W2,hr,f2,o2,⟨hs2,fun j o hj ho1 hc=>?_⟩,fun j cs q hj=>?_,h.store k _ f2 o2 l2 r2 (cells_upd vi vs h1 h2 _) i2 hs ha bl2 hs2⟩
 · refine (hst j (Array.getElem?_eq_some_iff.1 ho1).1 (fun e=>?_)).trans ho1
   obtain ⟨cur,hcur⟩:=row_kindN (h.str k h1 h2) e;rw [ho1] at hcur;injection hcur with hcur;rw [hcur] at hc;cases hc
 · refine (hst j (Array.getElem?_eq_some_iff.1 hj).1 (fun e=>?_)).trans hj
   obtain ⟨cur,hcur⟩:=row_kindN (h.str k h1 h2) e;rw [hj] at hcur;injection hcur with hcur;injection hcur with _ hcur;revert hcur;decide
end
theorem infoRec:(Tryz.prog.info? 58).map (fun i=>(i.zero,i.size,i.bytes))=some (some (.agg #[.string ⟨#[]⟩,.int .i64 0,.bool false,.int .i64 0,.int .i64 0,.int .i64 0,.int .u32 0,.int .u32 0,.int .u32 0,.int .u32 0,.int .u32 0,.int .u32 0,.int .u32 0,.int .u32 0,.int .u32 0,.int .u32 0,.int .u32 0,.int .u32 0,.int .u32 0,.int .u32 0,.int .u32 0,.int .u32 0,.int .i64 0,.slice none 0 0,.string ⟨#[]⟩,.int .i64 0,.int .i64 0]),27,184):=by kernel_rfl
theorem recYtahkcemdbfjilaaGreatDoorone (p:By) (n:Nd) (bv:Value) (hb:bv.oneCell'=true):∀u∈(recN p n bv).toList,u.oneCell'=true:=by
 intro u hu;simp only [recN,recC,List.mem_cons,List.not_mem_nil,or_false] at hu;rcases hu with rfl | rfl | rfl | rfl | rfl | rfl | rfl | rfl | rfl | rfl | rfl | rfl | rfl | rfl | rfl | rfl | rfl | rfl | rfl | rfl | rfl | rfl | rfl | rfl | rfl | rfl | rfl<;>first | rfl | exact hb
theorem dgs_one {B:Nat} {w:World} {v:Value} {hs:List (List UInt8)} (h:Dgs B w v hs):v.oneCell'=true:=by
 obtain ⟨A,c,rfl⟩:=h.form;rfl
theorem append_rec (w:World) (B:Nat) (v:Value) (ps:List (At × Value)) (h:RecP B w v ps) (y:At × Value) (g:Nat) (hg:Has w g 58 (recN y.1.1 y.1.2 y.2)) (hd:Dgs B w y.2 (hasN y.1.2)) (hn:ps.length≤100000) (hB:B≤w.heap.size) (ty:TypeId) :
 ∃v' w',(Builtin.append_ #[37,37] ty #[v,.slice (some ⟨g,0,none⟩) 1 1]).run Tryz.prog w=.ok v' w'∧w'.ownsRow B 58 27 v' (ps++[y]).length (pcells (ps++[y]))∧w.grownBy w' v.ownBlock∧(v'.ownBlock=v.ownBlock∨v'.ownBlock=some w.heap.size):=by
 obtain ⟨i0,hi,hz0,hz1,hz2⟩:=info_parts infoRec;obtain ⟨v',w',hr,ho,hg',_,hv⟩:=run_append_own_at (P:=Tryz.prog) w B 37 ty 58 i0 _ 27 184 Tryz.underlying37 hi hz0 hz1 hz2 (by simp [Value.cells]) (by omega) v ps.length (pcells ps) h.own ⟨g,0,none⟩ 1 1 (recN y.1.1 y.1.2 y.2).toList rfl
  (fun j u hj=>by
    rw [add_at,Nat.zero_add,hg.at_ j];rw [←Array.getElem?_toList];exact hj) (recYtahkcemdbfjilaaGreatDoorone _ _ _ (dgs_one hd)) (by unfold maxLen;omega) (by omega) hB
 refine ⟨v',w',hr,?_,hg',hv⟩;rw [pcells_snoc,List.length_append];exact ho
theorem run_build_rec (w:World) (cs:Array Value) (hs:cs.size=27) :
 (Instr.buildSlice 37 1 #[(0,Value.agg cs)]).run Tryz.prog w=.ok (.slice (some ⟨w.heap.size,0,none⟩) 1 1) (w.alloc (.cells cs 58)):=by
 have hI:(Tryz.prog.info? 58).map (fun i=>(i.size,i.zero))=some (27,some (.agg #[.string ⟨#[]⟩,.int .i64 0,.bool false,.int .i64 0,.int .i64 0,.int .i64 0,.int .u32 0,.int .u32 0,.int .u32 0,.int .u32 0,.int .u32 0,.int .u32 0,.int .u32 0,.int .u32 0,.int .u32 0,.int .u32 0,.int .u32 0,.int .u32 0,.int .u32 0,.int .u32 0,.int .u32 0,.int .u32 0,.int .i64 0,.slice none 0 0,.string ⟨#[]⟩,.int .i64 0,.int .i64 0])):=by kernel_rfl
 cases hie:Tryz.prog.info? 58 with
 | none=>rw [hie] at hI;cases hI
 | some ie =>
  rw [hie] at hI;simp only [Option.map_some,Option.some.injEq,Prod.mk.injEq] at hI;refine run_buildSlice (P:=Tryz.prog) w 37 58 1 _ _ ie _ Tryz.underlying37 hie hI.2 (by rw [hI.1];omega) (by rw [hI.1];omega) ?_
  rw [hI.1];refine (Great.fill_whole (s:=27) (by omega) [Value.agg cs] _ (fun v hv=>?_) (by simp)).trans (by simp [Value.cells])
  simp only [List.mem_singleton] at hv;subst hv;exact hs
theorem step_build_rec {ops:Array Oper} {o:Oper} {a:Act} {w:World} {K:Act→World→Prop} {Q:Exit→Act→World→Prop} {E:Prop} (hw:Region.wanted o (yielded ops a.tmps)=true)
 (y:Operand) (ho:o.op=.buildSlice 37 1 #[(0,y)]) (cs:Array Value) (hs:cs.size=27) (hx:a.eval y=.agg cs)
 (h:K (a.put o.dst (.slice (some ⟨w.heap.size,0,none⟩) 1 1)) (w.alloc (.cells cs 58))):if Region.wanted o (yielded ops a.tmps)=true then Oper.wp Tryz.prog o a w K Q else E:=by
 rw [if_pos hw];unfold Oper.wp execOp;simp only [ho,Sem.run_bind,List.map_toArray,List.map_cons,List.map_nil,hx,run_build_rec w cs hs,Result.andThen_ok];exact h
section
variable {w0 W:World} {B b5 b6 b9 b10:Nat} {v:Value} {it:Tr} {ls:Nat→List By} {over:By} {vi:Value} {vs:Nat→Value}
theorem WSt.appI (h:WSt w0 W B b5 b6 b9 b10 v it ls over vi vs) (x:At) (bv:Value) (hd:Dgs B W bv (hasN x.2)) (hn:it.length≤100000) :
 ∃A c W2,(Builtin.append_ #[37,37] 37 #[vi,.slice (some ⟨W.heap.size,0,none⟩) 1 1]).run Tryz.prog (W.alloc (.cells (recN x.1 x.2 bv) 58))=.ok (.slice A (it.length+1) c) W2 ∧
  Has W2 b9 39 #[vi,vs 1,vs 2,vs 3]∧KeepsFrom B W W2∧KpE W W2∧(∀(g:Nat) (t:TypeId) (cs:Array Value),Has W g t cs→t≠58→Has W2 g t cs) ∧
  WSt w0 (W2.setCell ⟨b9,0,none⟩ (.slice A (it.length+1) c)) B b5 b6 b9 b10 v (it++[x]) ls over (.slice A (it.length+1) c) vs:=by
 obtain ⟨ps,hps,hP⟩:=h.items;have hlp:ps.length=it.length:=by rw [←hps,List.length_map]
 have hb0:Below W.heap.size W (W.alloc (.cells (recN x.1 x.2 bv) 58)):=(Below.refl _ _).alloc (Nat.le_refl _) _;have hP0:RecP B (W.alloc (.cells (recN x.1 x.2 bv) 58)) vi ps:=⟨own_kq hP.own (Kq.of_below hb0),fun y hy=>(hP.dg y hy).kq (Kq.of_below hb0)⟩
 have hB:=h.hB;obtain ⟨v',W2,hr,ho,hg,hv⟩:=append_rec (W.alloc (.cells (recN x.1 x.2 bv) 58)) B vi ps hP0 (x,bv) W.heap.size (Has.fresh _ _ _) (hd.kq (Kq.of_below hb0)) (by omega) (by simp;omega) 37
 have hst:∀g,g < W.heap.size→vi.ownBlock≠some g→W2.heap[g]? = W.heap[g]?:=fun g hg1 hn=>(hg.block g (by simp;omega) (fun e=>hn e.symm)).trans (hb0.block g hg1)
 have hs2:W.heap.size≤W2.heap.size:=Nat.le_trans hb0.size hg.size;have keepH:∀{g:Nat} {t:TypeId} {cs:Array Value},Has W g t cs→t≠58→Has W2 g t cs:=fun hh ht=>(hst _ hh.inside (apart_has hP.own hh (fun e=>ht e.symm))).trans hh
 have dgk:∀(u:Value) (hs:List (List UInt8)),Dgs B W u hs→Dgs B W2 u hs:=fun u hs hu=>⟨row_of hu.own fun b hb=>hst b (World.ownsRow.lt hu.own b hb).2 (apart_type hu.own hP.own (by decide) b hb),hu.len⟩
 have i2:RecR B W2 v' (it++[x]):=by
  refine ⟨ps++[(x,bv)],by rw [List.map_append,hps];rfl,ho,fun y hy=>?_⟩
  rcases List.mem_append.1 hy with k | k
  · exact dgk _ _ (hP.dg y k)
  · rw [List.mem_singleton] at k;rw [k];exact dgk _ _ hd
 obtain ⟨A,c,rfl⟩:=i2.form;have hlen:(it++[x]).length=it.length+1:=by simp
 rw [hlen] at hr i2;have f2:=keepH h.f (by decide)
 have o2:=keepH h.o (by decide)
 have l2:=keepH h.l (by decide)
 have r2:=keepH h.r (by decide)
 have hs:∀j,1≤j→j≤3→StrR B W2 (vs j) (ls j):=fun j j1 j2=>row_of (h.str j j1 j2) fun b hb=>hst b (World.ownsRow.lt (h.str j j1 j2) b hb).2 (apart_type (h.str j j1 j2) hP.own (by decide) b hb)
 have bl2:Below w0.heap.size w0 W2:=(h.bl.alloc h.bl.size _).grown hg (by have:=h.bl.size;simp;omega) (fun g hg1=>by have:=(World.ownsRow.lt hP.own g hg1).1;have:=h.l9;omega)
 refine ⟨A,c,W2,hr,f2,⟨hs2,fun j o hj ho1 hc=>?_⟩,fun j cs q hj=>?_,fun _ _ _ hh ht=>keepH hh ht,h.store 0 _ f2 o2 l2 r2 rfl i2 hs h.ap bl2 hs2⟩
 · refine (hst j (Array.getElem?_eq_some_iff.1 ho1).1 (fun e=>?_)).trans ho1
   obtain ⟨cur,hcur⟩:=row_kindN hP.own e;rw [ho1] at hcur;injection hcur with hcur;rw [hcur] at hc;cases hc
 · refine (hst j (Array.getElem?_eq_some_iff.1 hj).1 (fun e=>?_)).trans hj
   obtain ⟨cur,hcur⟩:=row_kindN hP.own e;rw [hj] at hcur;injection hcur with hcur;injection hcur with _ hcur;revert hcur;decide
end
theorem ls_up1 (it:Tr) (a b c:List By) (q:By):lsOf ⟨it,a++[q],b,c⟩=updV (lsOf ⟨it,a,b,c⟩) 1 (lsOf ⟨it,a,b,c⟩ 1++[q]):=by
 funext j
 by_cases h:j=1
 · subst h;rfl
 · unfold updV;rw [if_neg h];unfold lsOf;simp [h]
theorem ls_up2 (it:Tr) (a b c:List By) (q:By):lsOf ⟨it,a,b++[q],c⟩=updV (lsOf ⟨it,a,b,c⟩) 2 (lsOf ⟨it,a,b,c⟩ 2++[q]):=by
 funext j
 by_cases h:j=2
 · subst h;rfl
 · unfold updV;rw [if_neg h];unfold lsOf;simp [h]
theorem ls_up3 (it:Tr) (a b c:List By) (q:By):lsOf ⟨it,a,b,c++[q]⟩=updV (lsOf ⟨it,a,b,c⟩) 3 (lsOf ⟨it,a,b,c⟩ 3++[q]):=by
 funext j
 by_cases h:j=3
 · subst h;rfl
 · unfold updV;rw [if_neg h];unfold lsOf;simp [h]
def sumF (f:Fnd):Nat:=f.items.length+f.temps.length+f.ign.length+f.bad.length
theorem sumF_step (ig:By→Bool) (s:Fnd × By) (x:By × Nd):sumF (stepW ig s x).1≤sumF s.1+1:=by
 unfold stepW;split
 · omega
 · split
   · unfold sumF;simp;omega
   · split
     · unfold sumF;simp;omega
     · split
       · unfold sumF;simp;omega
       · unfold sumF;simp;omega
theorem sum170 (ig:By→Bool):∀(k:Tr) (s:Fnd × By),sumF (k.foldl (stepW ig) s).1≤sumF s.1+k.length
 | [],s=>Nat.le_refl _
 | x :: k,s=>by
  rw [List.foldl_cons,List.length_cons];have h1:=sum170 ig k (stepW ig s x);have h2:=sumF_step ig s x;omega
theorem walkS_len (ig:By→Bool) (k:Tr):sumF (walkS ig k).1≤k.length:=by
 have:=sum170 ig k (⟨[],[],[],[]⟩,[]);unfold walkS;have e:sumF (⟨[],[],[],[]⟩:Fnd)=0:=rfl;rw [e] at this;omega
theorem over_fold (ig:By→Bool):∀(k:Tr) (s:Fnd × By),(k.foldl (stepW ig) s).2=s.2∨∃x∈k,x.1=(k.foldl (stepW ig) s).2
 | [],s=>.inl rfl
 | x :: k,s=>by
  rw [List.foldl_cons];rcases over_fold ig k (stepW ig s x) with h | ⟨y,hy,h⟩
  · have:(stepW ig s x).2=s.2∨(stepW ig s x).2=x.1:=by
     unfold stepW;split
     · exact .inl rfl
     · split
       · exact .inr rfl
       · split
         · exact .inr rfl
         · split<;>exact .inl rfl
    rcases this with e | e
    · exact .inl (h.trans e)
    · exact .inr ⟨x,List.mem_cons_self,(h.trans e).symm⟩
  · exact .inr ⟨y,List.mem_cons_of_mem _ hy,h⟩
theorem walkS_over (ig:By→Bool) (k:Tr):(walkS ig k).2=[]∨∃x∈k,x.1=(walkS ig k).2:=over_fold ig k _
theorem used_memN {l:Tr} {x:By × Nd} (h:x∈l):x.2.data.length≤usedL l:=by
 induction l with
 | nil=>cases h
 | cons y l ih =>
  obtain ⟨q,n⟩:=y;rw [usedL];rcases List.mem_cons.1 h with e | e
  · subst e;show n.data.length≤_;unfold useN;omega
  · have:=ih e;omega
section
variable {ig:By→Bool} {f:Fnd} {over q:By} {n:Nd}
theorem step_skip (h:skipB over q=true):stepW ig (f,over) (q,n)=(f,over):=by unfold stepW;rw [if_pos h]
theorem step_temp (h:skipB over q=false) (ht:isTempB q=true):stepW ig (f,over) (q,n)=(⟨f.items,f.temps++[q],f.ign,f.bad⟩,q):=by
 unfold stepW;simp only [h,ht,Bool.false_eq_true,if_false,if_true]
theorem step_ign (h:skipB over q=false) (ht:isTempB q=false) (hi:ig q=true):stepW ig (f,over) (q,n)=(⟨f.items,f.temps,f.ign++[q],f.bad⟩,q):=by
 unfold stepW;simp only [h,ht,hi,Bool.false_eq_true,if_false,if_true]
theorem step_bad (h:skipB over q=false) (ht:isTempB q=false) (hi:ig q=false) (hb:badN n=true):stepW ig (f,over) (q,n)=(⟨f.items,f.temps,f.ign,f.bad++[q]⟩,over):=by
 unfold stepW;simp only [h,ht,hi,hb,Bool.false_eq_true,if_false,if_true]
theorem step_item (h:skipB over q=false) (ht:isTempB q=false) (hi:ig q=false) (hb:badN n=false):stepW ig (f,over) (q,n)=(⟨f.items++[(q,n)],f.temps,f.ign,f.bad⟩,over):=by
 unfold stepW;simp only [h,ht,hi,hb,Bool.false_eq_true,if_false]
end
end Go.Proofs.YtahkcemdbfjilaaGreatDoor
