/- Several texts in one. Conditions: those said at each. -/
import Derived.Test.YtahkcemdbfjilaaGreatDoorIt23
set_option linter.unusedSimpArgs false
set_option linter.unusedVariables false
set_option maxRecDepth 100000
namespace Go.Proofs.YtahkcemdbfjilaaGreatDoor.Glob
open Go.RowKit Go.Maps
def ptrV (g:Nat):Value:=.pointer (some ⟨g,0,none⟩)
def Calm (L D:Nat) (r:Option Nat) (j:Nat) (o:Obj):Prop :=
 (∀cs q,o=Obj.cells cs 106 q→j≠L)∧(∀es c,o=Obj.map es c→j≠D)∧(∀cs q,o≠Obj.cells cs 169 q)∧(∀cs q,o=Obj.cells cs 9 q→some j≠r)
def Fr (L D:Nat) (r:Option Nat) (w W:World):Prop:=w.heap.size≤W.heap.size∧∀(j:Nat) (o:Obj),w.heap[j]? = some o→Calm L D r j o→W.heap[j]? = some o
theorem Calm.cells {L D:Nat} {r:Option Nat} {j:Nat} {cs:Array Value} {t:TypeId} {q:Nat × Nat} (h1:t≠106) (h2:t≠169) (h3:t≠9):Calm L D r j (Obj.cells cs t q):=by
 refine ⟨fun cs' q' e=>?_,fun es c e=>(nomatch e),fun cs' q' e=>?_,fun cs' q' e=>?_⟩
 · simp only [Obj.cells.injEq] at e;exact absurd e.2.1 h1
 · simp only [Obj.cells.injEq] at e;exact h2 e.2.1
 · simp only [Obj.cells.injEq] at e;exact absurd e.2.1 h3
theorem Calm.strs {L D:Nat} {r:Option Nat} {j:Nat} {cs:Array Value} {q:Nat × Nat} (h:some j≠r):Calm L D r j (Obj.cells cs 9 q):=by
 refine ⟨fun cs' q' e=>?_,fun es c e=>(nomatch e),fun cs' q' e=>?_,fun _ _ _=>h⟩
 · simp only [Obj.cells.injEq] at e;exact absurd e.2.1 (by decide)
 · simp only [Obj.cells.injEq] at e;exact absurd e.2.1 (by decide)
theorem Calm.map {L D:Nat} {r:Option Nat} {j:Nat} {es} {c} (h:j≠D):Calm L D r j (Obj.map es c):=⟨fun _ _ e=>(nomatch e),fun _ _ _=>h,fun _ _ e=>(nomatch e),fun _ _ e=>(nomatch e)⟩
theorem Fr.of_below {L D:Nat} {r:Option Nat} {w W:World} (h:Below w.heap.size w W):Fr L D r w W:=⟨h.size,fun j _ ho _=>(h.block j (Array.getElem?_eq_some_iff.1 ho).1).trans ho⟩
theorem Fr.refl (L D:Nat) (r:Option Nat) (w:World):Fr L D r w w:=Fr.of_below (Below.refl _ _)
theorem Fr.trans {L D:Nat} {r r':Option Nat} {a b c:World} (h:Fr L D r a b) (k:Fr L D r' b c) (hr:∀j,j < a.heap.size→some j=r'→some j=r):Fr L D r a c:=by
 refine ⟨Nat.le_trans h.1 k.1,fun j o ho hc=>k.2 j o (h.2 j o ho hc) ⟨hc.1,hc.2.1,hc.2.2.1,fun cs q e h2=>hc.2.2.2 cs q e (hr j (Array.getElem?_eq_some_iff.1 ho).1 h2)⟩⟩
theorem Fr.thenG {L D:Nat} {r:Option Nat} {a b c:World} (h:Fr L D r a b) (k:Below b.heap.size b c):Fr L D r a c:=h.trans (Fr.of_below (r:=r) k) (fun _ _ h=>h)
theorem Fr.tr {L D:Nat} {r:Option Nat} {a b c:World} (h:Fr L D r a b) (k:Fr L D r b c):Fr L D r a c:=h.trans k (fun _ _ h=>h)
theorem Fr.has {L D:Nat} {r:Option Nat} {w W:World} {g:Nat} {t:TypeId} {cs:Array Value} (h:Fr L D r w W) (k:Has w g t cs) (h1:t≠106) (h2:t≠169) (h3:t≠9):Has W g t cs:=h.2 g _ k (Calm.cells h1 h2 h3)
theorem Fr.str {L D:Nat} {r:Option Nat} {w W:World} {g:Nat} {cs:Array Value} (h:Fr L D r w W) (k:Has w g 9 cs) (hr:some g≠r):Has W g 9 cs:=h.2 g _ k (Calm.strs hr)
theorem Fr.gx {L D:Nat} {r:Option Nat} {w W:World} (h:Fr L D r w W):Gx w W:=by
 refine ⟨h.1,fun j cs t q ho ht=>h.2 j _ ho ?_⟩
 rcases ht with rfl | rfl | rfl | rfl<;>exact Calm.cells (by decide) (by decide) (by decide)
theorem Fr.own {L D:Nat} {r:Option Nat} {w W:World} {B:Nat} {e:TypeId} {s n:Nat} {v:Value} {xs:List Value} (h:Fr L D r w W) (k:w.ownsRow B e s v n xs) (h1:e≠106) (h2:e≠169) (h3:e≠9):W.ownsRow B e s v n xs:=by
 refine ⟨k.1,?_⟩;rcases k.2 with h1 | ⟨g,c,cur,rfl,hB,h4,h5⟩
 · exact .inl h1
 · exact .inr ⟨g,c,cur,rfl,hB,h.2 g _ h4 (Calm.cells h1 h2 h3),h5⟩
theorem Els.fr {L D:Nat} {r:Option Nat} {B:Nat} {w w':World} {v:Value} {hs:H} (h:Els B w v hs) (hb:Fr L D r w w'):Els B w' v hs:=by
 obtain ⟨ps,ho,hl,hf⟩:=h;exact ⟨ps,hb.own ho (by decide) (by decide) (by decide),hl,fun k p x hp hx=>⟨(hf k p x hp hx).1,(hf k p x hp hx).2.gx hb.gx⟩⟩
theorem PatIs.fr {L D:Nat} {r:Option Nat} {w w':World} {g:Nat} {s:By} {p:Pt} (h:PatIs w g s p) (hb:Fr L D r w w'):PatIs w' g s p:=by
 obtain ⟨v,h1,h2,h3⟩:=h;exact ⟨v,hb.has h1 (by decide) (by decide) (by decide),h2.fr hb,h3⟩
def PtrTo (w:World) (gs:List Nat) (ps:List By):Prop:=gs.length=ps.length∧∀(k:Nat) g s,gs[k]? = some g→ps[k]? = some s→∃p,PatIs w g s p∧parseL s=some p∧perr s=0
theorem PtrTo.fr {L D:Nat} {r:Option Nat} {w w':World} {gs:List Nat} {ps:List By} (h:PtrTo w gs ps) (hb:Fr L D r w w'):PtrTo w' gs ps :=
 ⟨h.1,fun k g s h1 h2=>by obtain ⟨p,a,b⟩:=h.2 k g s h1 h2;exact ⟨p,a.fr hb,b⟩⟩
theorem PtrTo.append {w:World} {gs hs:List Nat} {ps qs:List By} (h:PtrTo w gs ps) (k:PtrTo w hs qs):PtrTo w (gs++hs) (ps++qs):=by
 refine ⟨by simp [h.1,k.1],fun j g s h1 h2=>?_⟩
 by_cases hj:j < gs.length
 · rw [List.getElem?_append_left hj] at h1
   rw [List.getElem?_append_left (by rw [←h.1];exact hj)] at h2
   exact h.2 j g s h1 h2
 · rw [List.getElem?_append_right (by omega)] at h1
   rw [List.getElem?_append_right (by rw [←h.1];omega),←h.1] at h2
   exact k.2 _ g s h1 h2
theorem PtrTo.nil (w:World):PtrTo w [] []:=⟨rfl,fun k g s h=>by simp at h⟩
theorem PtrTo.one {w:World} {g:Nat} {s:By} {p:Pt} (h:PatIs w g s p) (h1:parseL s=some p) (h2:perr s=0):PtrTo w [g] [s]:=by
 refine ⟨rfl,fun k g' s' a b=>?_⟩
 match k,a,b with
 | 0,a,b=>simp at a b;subst a;subst b;exact ⟨p,h,h1,h2⟩
 | k+1,a,b=>simp at a
theorem PtrTo.part {w:World} {gs:List Nat} {ps:List By} (h:PtrTo w gs ps) (a n:Nat):PtrTo w ((gs.drop a).take n) ((ps.drop a).take n):=by
 refine ⟨by simp [h.1],fun k g s h1 h2=>?_⟩
 rw [List.getElem?_take,List.getElem?_drop] at h1 h2;split at h1
 · rename_i hk;rw [if_pos hk] at h2;exact h.2 _ g s h1 h2
 · cases h1
def Pats (B:Nat) (w:World) (v:Value) (ps:List By):Prop:=∃gs:List Nat,w.ownsRow B 169 1 v ps.length (gs.map ptrV)∧PtrTo w gs ps
theorem Pats.nil (B:Nat) (w:World):Pats B w (.slice none 0 0) []:=⟨[],World.ownsRow_nil _ _ _ _,PtrTo.nil w⟩
theorem Pats.form {B:Nat} {w:World} {v:Value} {ps:List By} (h:Pats B w v ps):∃A c,v=.slice A ps.length c:=by obtain ⟨_,ho,_⟩:=h;exact own_form ho
theorem Pats.below {B:Nat} {w w':World} {v:Value} {ps:List By} (h:Pats B w v ps) (hb:Below w.heap.size w w'):Pats B w' v ps:=by
 obtain ⟨gs,ho,hp⟩:=h;exact ⟨gs,own_below ho hb,hp.fr (Fr.of_below (L:=0) (D:=0) (r:=none) hb)⟩
theorem infoPatP:(Tryz.prog.info? 169).map (fun i=>(i.zero,i.size,i.bytes))=some (some (.pointer none),1,8):=by kernel_rfl
def More (w:World) (x:Value) (qs:List By):Prop:=∃(gs:List Nat) (A:Option Addr) (c:Nat),x=.slice A qs.length c∧PtrTo w gs qs∧(A=none→qs=[]∧c=0)∧∀a,A=some a→∀(j:Nat) u,(gs.map ptrV)[j]? = some u→w.cell? (a.add j)=some u
theorem append_pats {B:Nat} {w:World} {v x:Value} {ps qs:List By} (h:Pats B w v ps) (hx:More w x qs) (hn:ps.length+qs.length≤64) (hB:B≤w.heap.size) (ty:TypeId) :
 ∃v' w',(Builtin.append_ #[104,104] ty #[v,x]).run Tryz.prog w=.ok v' w'∧Pats B w' v' (ps++qs)∧(∀L D r,Fr L D r w w')∧(∀(a:World),Below B a w→Below B a w')∧(∀g t cs,Has w g t cs→t≠169→Has w' g t cs):=by
 obtain ⟨gs,ho,hp⟩:=h;obtain ⟨hs,A,c,rfl,hq,hA0,hA⟩:=hx;obtain ⟨i0,hi,hz0,hz1,hz2⟩:=info_parts infoPatP
 cases A with
 | none =>
  obtain ⟨hq0,hc0⟩:=hA0 rfl;subst hq0;subst hc0;have hr:=run_append_owned_none (P:=Tryz.prog) w B 104 ty 169 i0 1 Tryz.underlying104 hi v ps.length _ ho;exact ⟨v,w,hr,by rw [List.append_nil];exact ⟨gs,ho,hp⟩,fun _ _ _=>Fr.refl _ _ _ _,fun _ h=>h,fun _ _ _ h _=>h⟩
 | some a =>
  obtain ⟨v',w',hr,ho',hg,_,_⟩:=run_append_own_at (P:=Tryz.prog) w B 104 ty 169 i0 (.pointer none) 1 8 Tryz.underlying104 hi hz0 hz1 hz2 rfl (by omega) v ps.length _ ho a qs.length c (hs.map ptrV) (by simp [hq.1]) (hA a rfl) (fun y hy=>by
   obtain ⟨g,_,rfl⟩:=List.mem_map.1 hy;rfl) (by unfold maxLen;omega) (by omega) hB
  have hty:=own_typed ho;have hF:∀L D r,Fr L D r w w':=fun L D r=>⟨hg.size,fun j o hj hc=>(hg.block j (Array.getElem?_eq_some_iff.1 hj).1 fun e=>by
   obtain ⟨cs,q,h2⟩:=hty j e.symm;exact hc.2.2.1 cs q (Option.some.inj (hj.symm.trans h2))).trans hj⟩
  refine ⟨v',w',hr,⟨gs++hs,by rw [List.map_append,List.length_append];exact ho',(hp.append hq).fr (hF 0 0 none)⟩,hF,fun a ha=>grown_below hg ha (fun k hk=>(own_inside ho k hk).1) hB,fun g t cs hh ht=>?_⟩
  refine (hg.block g hh.inside fun e=>?_).trans hh
  obtain ⟨cs',q,h2⟩:=hty g e.symm;have e2:=Option.some.inj (hh.symm.trans h2);simp only [Obj.cells.injEq] at e2;exact ht e2.2.1
def Out (g:Except Int (List By)) (e:Ending) (X:Prop) (Y:List By→Prop):Prop :=
 match g with
 | .error c=>e=.returned (.int .i64 c)∧c≠0∧X
 | .ok qs=>e=.returned (.int .i64 0)∧Y qs
theorem Out.err {g:Except Int (List By)} {c:Int} (h:g=.error c) {e:Ending} {X:Prop} {Y:List By→Prop} (h1:e=.returned (.int .i64 c)) (h2:c≠0) (h3:X):Out g e X Y:=by subst h;exact ⟨h1,h2,h3⟩
theorem Out.ok {g:Except Int (List By)} {qs:List By} (h:g=.ok qs) {e:Ending} {X:Prop} {Y:List By→Prop} (h1:e=.returned (.int .i64 0)) (h2:Y qs):Out g e X Y:=by subst h;exact ⟨h1,h2⟩
theorem Out.of_err {c:Int} {e:Ending} {X:Prop} {Y:List By→Prop} (h:Out (.error c) e X Y):e=.returned (.int .i64 c)∧c≠0∧X:=h
theorem Out.of_ok {qs:List By} {e:Ending} {X:Prop} {Y:List By→Prop} (h:Out (.ok qs) e X Y):e=.returned (.int .i64 0)∧Y qs:=h
def ListIs (B:Nat) (w:World) (L:Nat) (ps:List By):Prop:=∃v,Has w L 106 #[v]∧Pats B w v ps
theorem ListIs.below {B L:Nat} {w w':World} {ps:List By} (h:ListIs B w L ps) (hb:Below w.heap.size w w'):ListIs B w' L ps:=by
 obtain ⟨v,h1,h2⟩:=h;exact ⟨v,h1.stays hb,h2.below hb⟩
theorem Fr.setL {L D:Nat} {r:Option Nat} {w:World} {cs:Array Value} (h:Has w L 106 cs) (v:Value):Fr L D r w (w.setCell ⟨L,0,none⟩ v):=by
 refine ⟨by simp,fun j o ho hc=>?_⟩
 by_cases hj:j=L
 · subst hj
   exact absurd rfl (hc.1 _ _ (Option.some.inj (ho.symm.trans h)))
 · exact (Below.heap_setCell w ⟨L,0,none⟩ v j hj).trans ho
theorem Pats.setL {B L:Nat} {w:World} {cs:Array Value} {v:Value} {ps:List By} (h:Pats B w v ps) (hL:Has w L 106 cs) (u:Value):Pats B (w.setCell ⟨L,0,none⟩ u) v ps:=by
 obtain ⟨gs,ho,hp⟩:=h;refine ⟨gs,own_stays ho fun k hk=>?_,hp.fr (Fr.setL (D:=0) (r:=none) hL u)⟩
 have:k≠L:=by
  rintro rfl;obtain ⟨cs',q,h2⟩:=own_typed ho k hk;have e2:=Option.some.inj (hL.symm.trans h2);simp only [Obj.cells.injEq] at e2;exact absurd e2.2.1 (by decide)
 exact Below.heap_setCell w ⟨L,0,none⟩ u k this
set_option maxHeartbeats 1000000 in
theorem add_any (B L:Nat) (ps qs:List By) (x:Value) (w:World) (hL:ListIs B w L ps) (hx:More w x qs) (h1:ps.length≤64) (h2:qs.length≤64) (hB:B≤L) :
 Calls Tryz.prog 44 #[ptrV L,x] w fun e w'=>Out (addL ps qs) e (w=w') (fun rs=>ListIs B w' L rs∧(∀D r,Fr L D r w w')∧(∀(a:World),Below B a w→Below B a w')):=by
 obtain ⟨v,hh,hp⟩:=hL;have hBs:B≤w.heap.size:=by have:=hh.inside;omega
 have c0:=hh.at_ 0;obtain ⟨A,cp,rfl⟩:=hp.form;obtain ⟨X,cx,hxe⟩:∃X cx,x=.slice X qs.length cx:=by obtain ⟨_,A,c,h,_⟩:=hx;exact ⟨A,c,h⟩
 have h1':=h1;have h2':=h2;by_cases h64:ps.length+qs.length≤64
 · have HE:Hid (addL ps qs=.ok (ps++qs)):=by show _=_;unfold addL;rw [if_pos h64]
   obtain ⟨v',w1,hr,hp',hF,hBel,hH⟩:=append_pats hp hx h64 hBs 104;have HL1:=hid (hH L 106 _ hh (by decide))
   have d0:=HL1.out.at_ 0;have f0:=HL1.out.free 0;have HP:=hid hp';have HF:=hid hF;have HBel:=hid hBel;have HR:=hid hr;obtain ⟨A',cp',hv'⟩:=hp'.form;rw [List.length_append] at hv';subst hv';subst hxe;have g1:¬((64:Int) < (ps.length:Int)+(qs.length:Int)):=by omega
   generalize hn:ps.length=n at *;generalize hm:qs.length=m at *;clear hp hx hp' hF hBel hH hr hh;unfold ptrV;go_enter Tryz.func44,Tryz.ntmps44
   go_wp2_with (at_builtin;refine wpList_append_run rfl (.tmp 18) (.tmp 19) 104 104 rfl ⟨_,w1,HR.out,?_⟩)
   go_ret;exact Out.ok HE.out rfl ⟨⟨_,HL1.out.put 0 _,HP.out.setL HL1.out _⟩,fun D r=>(HF.out L D r).tr (Fr.setL HL1.out _),fun a ha=>(HBel.out a ha).setCell hB _⟩
 · have HE:Hid (addL ps qs=.error 3):=by show _=_;unfold addL;rw [if_neg h64]
   subst hxe;have g1:(64:Int) < (ps.length:Int)+(qs.length:Int):=by omega
   generalize hn:ps.length=n at *;generalize hm:qs.length=m at *;clear hp hx hh;unfold ptrV;go_enter Tryz.func44,Tryz.ntmps44
   go_wp2;go_ret;exact Out.err HE.out rfl (by decide) rfl
end Go.Proofs.YtahkcemdbfjilaaGreatDoor.Glob
namespace Go.Proofs.YtahkcemdbfjilaaGreatDoor.Glob
open Go.RowKit Go.Maps
def lineP (s:By) (ps:List By):Except Int (List By):=if ps.length=64 then .error 3 else if perr s≠0 then .error (perr s) else .ok (ps++[s])
def lineL (rd:By→List By→Except Int (List By)) (s:By) (ps:List By):Except Int (List By):=if pre incM s then rd (s.drop 9) ps else lineP s ps
def foldE (f:By→List By→Except Int (List By)):List By→List By→Except Int (List By)
 | [],ps=>.ok ps
 | s :: ls,ps=>match f s ps with | .error e=>.error e | .ok qs=>foldE f ls qs
theorem stepL_fold (rd:By→List By→Except Int (List By)):∀ls ps,stepL rd ls ps=foldE (lineL rd) ls ps:=by
 intro ls;induction ls with
 | nil=>intro ps;rfl
 | cons s ls ih =>
  intro ps;unfold stepL foldE lineL lineP;split
  · cases rd (s.drop 9) ps with
    | error e=>rfl
    | ok qs=>exact ih qs
  · split
    · rfl
    · split
      · rfl
      · exact ih _
theorem sclone_any (s:By) (w:World) (hs:s.length≤100000):Calls Tryz.prog 78 #[.string (ba s)] w fun e w'=>e=.returned (.string (ba s))∧Below w.heap.size w w':=by
 have HC:=hid (Tryz.stringslite_Clone (ba s) w (by rw [ba_size];omega))
 go_enter Tryz.func78,Tryz.ntmps78
 go_wp2_with (go_at_call 126;refine HC.out.mono ?_;rintro e1 w1 ⟨rfl,hb1⟩)
 go_ret;exact ⟨rfl,hb1⟩
theorem More.one {w:World} {g:Nat} {s:By} {p:Pt} (h:PatIs w g s p) (h1:parseL s=some p) (h2:perr s=0):More (w.alloc (.cells #[ptrV g] 169)) (.slice (some ⟨w.heap.size,0,none⟩) 1 1) [s]:=by
 have hb:Below w.heap.size w (w.alloc (.cells #[ptrV g] 169)):=(Below.refl _ _).alloc (Nat.le_refl _) _;refine ⟨[g],_,1,rfl,PtrTo.one (h.stays hb) h1 h2,fun e=>(nomatch e),fun a ha j u hj=>?_⟩
 simp only [Option.some.injEq] at ha;subst ha;match j,hj with
 | 0,hj=>simp at hj;subst hj;exact (Has.fresh w 169 #[ptrV g]).at_ 0
 | j+1,hj=>simp at hj
set_option maxHeartbeats 1000000 in
theorem lparse_any (B L:Nat) (ps:List By) (s:By) (w:World) (hL:ListIs B w L ps) (h1:ps.length≤64) (hs:s.length≤100000) (hB:B≤L) :
 Calls Tryz.prog 48 #[ptrV L,.string (ba s)] w fun e w'=>Out (lineP s ps) e True (fun rs=>ListIs B w' L rs)∧(∀D r,Fr L D r w w')∧(∀(a:World),Below B a w→Below B a w'):=by
 have HL:=hid hL;obtain ⟨v,hh,hp⟩:=hL;have hBs:B≤w.heap.size:=by have:=hh.inside;omega
 have c0:=hh.at_ 0;obtain ⟨A,cp,rfl⟩:=hp.form;have HBS:=hid hBs;have HB:=hid hB;have H1:=hid h1;have HCL:=hid (sclone_any s w hs);by_cases h64:ps.length=64
 · have HE:Hid (lineP s ps=.error 3):=by show _=_;unfold lineP;rw [if_pos h64]
   have g1:(ps.length:Int)=64:=by omega
   generalize hn:ps.length=n at *;clear hp hh HL H1 h1 h64 hs hB hBs;unfold ptrV;go_enter Tryz.func48,Tryz.ntmps48
   go_wp2;go_ret;exact ⟨Out.err HE.out rfl (by decide) trivial,fun D r=>Fr.refl _ _ _ _,fun _ h=>h⟩
 · have HE:Hid (lineP s ps=if perr s≠0 then .error (perr s) else .ok (ps++[s])):=by show _=_;unfold lineP;rw [if_neg h64]
   have g1:¬((ps.length:Int)=64):=by omega
   have HAD:Hid (addL ps [s]=.ok (ps++[s])):=by show _=_;unfold addL;rw [if_pos (by simp;omega)]
   generalize hn:ps.length=n at g1 c0;clear hp hh h1 h64 hs hB hBs;unfold ptrV;go_enter Tryz.func48,Tryz.ntmps48
   go_wp2_with (fail)
   refine HCL.out.mono ?_;rintro e1 w1 ⟨rfl,hb1⟩;go_wp2_with (fail)
   refine (parse_any s w1).mono ?_;rintro e2 w2 ⟨hp2,hb2⟩;have HB2:Hid (Below w.heap.size w w2):=hb1.thenG hb2;clear hb1 hb2;rcases parse_cases hp2 with ⟨c,hc,hpe,rfl⟩ | ⟨p,g,hl,hpl,hpe,rfl,hpat⟩
   · have hc0:(c == 0)=false:=by simp [hc]
     have HPE:=hid hpe;have HC:=hid hc;have HGE:Hid (lineP s ps=.error c):=by show _=_;rw [HE.out,if_pos (by rw [hpe];exact hc),hpe]
     clear hp2 hpe hc;go_wp2;go_ret;exact ⟨Out.err HGE.out rfl HC.out trivial,fun D r=>Fr.of_below HB2.out,fun a ha=>ha.trans (HB2.out.mono HBS.out)⟩
   · have HPE:=hid hpe
     have HGE:Hid (lineP s ps=.ok (ps++[s])):=by show _=_;rw [HE.out,if_neg (by rw [hpe];decide)]
     have HM:=hid (More.one hpat hpl hpe);have HL3:Hid (ListIs B (w2.alloc (.cells #[ptrV g] 169)) L ps):=HL.out.below (HB2.out.alloc HB2.out.size _);have HB3:Hid (Below w.heap.size w (w2.alloc (.cells #[ptrV g] 169))):=HB2.out.alloc HB2.out.size _;have HCA:=hid (add_any B L ps [s] _ _ HL3.out HM.out H1.out (by simp) HB.out)
     rw [HAD.out] at HCA;unfold ptrV at HCA HB3 HM HL3;clear hp2 hpe hl hpl hpat;go_wp2_with (fail)
     refine HCA.out.mono ?_;intro e3 w3 h3;obtain ⟨rfl,hl3,hf3,hbb3⟩:=h3.of_ok;clear h3;have HLL:=hid hl3;have HF:=hid hf3;have HBB:=hid hbb3;clear hl3 hf3 hbb3;go_wp2;go_ret;exact ⟨Out.ok HGE.out rfl HLL.out,fun D r=>(Fr.of_below HB3.out).tr (HF.out D r),fun a ha=>HBB.out a (ha.trans (HB3.out.mono HBS.out))⟩
theorem idle_no {u:By} (h:idle u=false):∃x u',u=x :: u'∧pre [47,47] u=false:=by
 unfold idle at h
 cases u with
 | nil=>simp at h
 | cons x u'=>exact ⟨x,u',rfl,by simpa using h⟩
theorem idle_yes {u:By} (h:idle u=true):u=[]∨∃x u',u=x :: u'∧pre [47,47] u=true:=by
 cases u with
 | nil=>exact .inl rfl
 | cons x u'=>exact .inr ⟨x,u',rfl,by unfold idle at h;simpa using h⟩
set_option maxHeartbeats 2000000 in
theorem lines_any (text:By) (k:Nat) (lb:Array Value) (ek:∀(args:Array Value) (w:World),(callFunc k args).run Tryz.prog w=.ok (.enter k args) w) (I:List By→World→Prop) (E:World→Prop) (stp:By→List By→Except Int (List By))
 (hI:∀ps W W',I ps W→Below W.heap.size W W'→I ps W') (hG:∀ps W,I ps W→Gd W)
 (hst:∀ps W s,s∈linesL text→I ps W→Calls Tryz.prog k (#[.string (ba s)]++lb) W fun e W'=>Out (stp s ps) e (E W') (fun qs=>I qs W'))
 (ps:List By) (w:World) (h0:I ps w) (hl:text.length≤100000) :
 Calls Tryz.prog 45 #[.string (ba text),.func (.func k) #[] lb] w fun e W=>Out (foldE stp (linesL text) ps) e (E W) (fun qs=>I qs W):=by
 have HI:=hid hI;have HG:=hid hG;have HST:=hid hst;have H0:=hid h0;clear hI hG hst h0;obtain ⟨goal,HC⟩:∃g,Hid (foldE stp (linesL text) ps=g):=⟨_,rfl⟩;rw [HC.out];go_enter Tryz.func45,Tryz.ntmps45
 go_wp2;go_loopw [0,5] (fun s0 m wr=>∃(t:By) (g:Bool) (qs:List By),s0=.string (ba t)∧m=.bool g∧t.length≤100000∧Hid (goal=if g then foldE stp (linesL t) qs else .ok qs)∧Hid (I qs wr)∧Hid (g=true→∀s∈linesL t,s∈linesL text))
  (fun s0 m _=>match s0,m with | .string x,.bool true=>x.size+1 | _,_=>0)
 case atStart=>exact ⟨text,true,ps,rfl,rfl,hl,HC.out.symm,H0,fun _ _ h=>h⟩
 case round =>
  obtain ⟨t,g,qs,rfl,rfl,ht,HE,HW,HM⟩:=hrel
  cases g with
  | false =>
   go_wp2;go_ret;exact Out.ok HE.out rfl HW.out
  | true =>
   obtain ⟨p,q,m,HCU⟩:∃p q m,Hid (cutN t=(p,q,m)):=⟨_,_,_,rfl⟩;have hp:p.length≤100000:=by have:=(cutYtahkcemdbfjilaaGreatDoorlen t).2.1;rw [HCU.out] at this;simp only at this;omega
   have hq:q.length≤100000:=by have:=(cutYtahkcemdbfjilaaGreatDoorlen t).1;rw [HCU.out] at this;simp only at this;omega
   have HQ:Hid (m=true→q.length < t.length):=by intro hm;have:=(cutYtahkcemdbfjilaaGreatDoorlen t).2.2;rw [HCU.out] at this;exact this hm
   have HLN:Hid (linesL t=(if idle (trimB p) then [] else [trimB p])++(if m then linesL q else [])):=by show _=_;rw [linesL_cut,HCU.out]
   have HNL:=hid (nl_any t p q m HCU wr (HG.out _ _ HW.out) ht);have HTR:=hid (fun W=>trim_any p W hp)
   have HZT:=hid (ba_size t);have HZQ:=hid (ba_size q);have HQL:=hid hq;generalize trimB p=u at HLN HTR
   cases hid0:idle u with
   | true =>
    rw [hid0] at HLN;have HE2:Hid (goal=if m then foldE stp (linesL q) qs else .ok qs):=by
     show _=_;rw [HE.out,if_pos rfl,HLN.out];cases m<;>rfl
    have HM2:Hid (m=true→∀s∈linesL q,s∈linesL text):=fun hm s hs=>HM.out rfl s (by rw [HLN.out,hm];simpa using hs)
    rcases idle_yes hid0 with rfl | ⟨x,u',rfl,hpre⟩
    · have zt:(ba ([]:By)).toList=[]:=toList_ba _
      generalize ba ([]:By)=X at zt HTR;clear hid0 hp hq;go_wp2_with (first
       | (go_at_call 90;refine HNL.out.mono ?_;rintro e1 w1 ⟨rfl,nd,rfl⟩)
       | (go_at_call 91;refine (HTR.out _).mono ?_;rintro e2 w2 ⟨rfl,hb2⟩
          have HW2:Hid (I qs w2):=HI.out _ _ _ HW.out (((Below.refl _ _).drewG nd).thenG hb2);clear hb2))
      go_roundw
      case rel=>exact ⟨q,m,qs,rfl,rfl,HQL.out,HE2,HW2,HM2⟩
      case measure =>
       cases m with
       | false=>simp
       | true=>simp only;rw [HZQ.out,HZT.out];have:=HQ.out rfl;omega
    · have HPR:=hid (fun W=>pre_any (x :: u') [47,47] W)
      rw [hpre] at HPR;have zt:(ba (x :: u')).toList=x :: u':=toList_ba _;generalize ba (x :: u')=X at zt HTR HPR;clear hid0 hp hq hpre;go_wp2_with (first
       | (go_at_call 90;refine HNL.out.mono ?_;rintro e1 w1 ⟨rfl,nd,rfl⟩)
       | (go_at_call 91;refine (HTR.out _).mono ?_;rintro e2 w2 ⟨rfl,hb2⟩
          have HW2:Hid (I qs w2):=HI.out _ _ _ HW.out (((Below.refl _ _).drewG nd).thenG hb2);clear hb2)
       | (go_at_call 75;refine (HPR.out _).mono ?_;rintro e3 w3 ⟨rfl,rfl⟩))
      go_roundw
      case rel=>exact ⟨q,m,qs,rfl,rfl,HQL.out,HE2,HW2,HM2⟩
      case measure =>
       cases m with
       | false=>simp
       | true=>simp only;rw [HZQ.out,HZT.out];have:=HQ.out rfl;omega
   | false =>
    obtain ⟨x,u',hu,hpre⟩:=idle_no hid0;rw [hid0] at HLN;have HIN:Hid (u∈linesL text):=HM.out rfl u (by rw [HLN.out];simp)
    have HT:Hid (∀W,I qs W→Calls Tryz.prog k (#[.string (ba u)]++lb) W fun e W'=>Out (stp u qs) e (E W') (fun rs=>I rs W')):=fun W h=>HST.out qs W u HIN.out h
    have HPR:=hid (fun W=>pre_any u [47,47] W)
    rw [hpre] at HPR;have zt:(ba u).toList=x :: u':=by rw [toList_ba,hu]
    cases hsp:stp u qs with
    | error c =>
     have HE2:Hid (goal=.error c):=by
      show _=_;rw [HE.out,if_pos rfl,HLN.out];show foldE stp ([u]++_) qs=_
      rw [List.singleton_append,foldE,hsp]
     rw [hsp] at HT;generalize ba u=X at zt HTR HPR HT;clear hid0 hp hq hpre hsp hu;go_wp2_with (first
      | (go_at_call 90;refine HNL.out.mono ?_;rintro e1 w1 ⟨rfl,nd,rfl⟩)
      | (go_at_call 91;refine (HTR.out _).mono ?_;rintro e2 w2 ⟨rfl,hb2⟩
         have HW2:Hid (I qs w2):=HI.out _ _ _ HW.out (((Below.refl _ _).drewG nd).thenG hb2);clear hb2)
      | (go_at_call 75;refine (HPR.out _).mono ?_;rintro e3 w3 ⟨rfl,rfl⟩)
      | (go_at_fn k;refine (HT.out _ HW2.out).mono ?_;intro e4 w4 h4;obtain ⟨rfl,hc4,he4⟩:=h4.of_err;clear h4
         have hcz:(c == 0)=false:=by simp [hc4]
         have HC4:=hid hc4;have HE4:=hid he4;clear hc4 he4))
     go_ret;exact Out.err HE2.out rfl HC4.out HE4.out
    | ok rs =>
     have HE2:Hid (goal=if m then foldE stp (linesL q) rs else .ok rs):=by
      show _=_;rw [HE.out,if_pos rfl,HLN.out];show foldE stp ([u]++_) qs=_
      rw [List.singleton_append,foldE,hsp];cases m<;>rfl
     have HM2:Hid (m=true→∀s∈linesL q,s∈linesL text):=fun hm s hs=>HM.out rfl s (by rw [HLN.out,hm];simp [hs])
     rw [hsp] at HT;generalize ba u=X at zt HTR HPR HT;clear hid0 hp hq hpre hsp hu;go_wp2_with (first
      | (go_at_call 90;refine HNL.out.mono ?_;rintro e1 w1 ⟨rfl,nd,rfl⟩)
      | (go_at_call 91;refine (HTR.out _).mono ?_;rintro e2 w2 ⟨rfl,hb2⟩
         have HW2:Hid (I qs w2):=HI.out _ _ _ HW.out (((Below.refl _ _).drewG nd).thenG hb2);clear hb2)
      | (go_at_call 75;refine (HPR.out _).mono ?_;rintro e3 w3 ⟨rfl,rfl⟩)
      | (go_at_fn k;refine (HT.out _ HW2.out).mono ?_;intro e4 w4 h4;obtain ⟨rfl,he4⟩:=h4.of_ok;clear h4
         have HE4:=hid he4;clear he4))
     go_roundw
     case rel=>exact ⟨q,m,rs,rfl,rfl,HQL.out,HE2,HE4,HM2⟩
     case measure =>
      cases m with
      | false=>simp
      | true=>simp only;rw [HZQ.out,HZT.out];have:=HQ.out rfl;omega
end Go.Proofs.YtahkcemdbfjilaaGreatDoor.Glob
namespace Go.Proofs.YtahkcemdbfjilaaGreatDoor.Glob
open Go.RowKit Go.Maps
section
variable {ops:Array Oper} {S:World→Prop} {o:Oper} {a:Act}
theorem yields_slice {t:TypeId} (hw:Region.wanted o (yielded ops a.tmps)=true) (x l h:Operand) (ho:o.op=.slice t x (some l) (some h) none) (xv lv hv r:Value) (hx:a.eval x=xv) (hl:a.eval l=lv) (hh:a.eval h=hv)
 (hS:∀w,S w→(Instr.sliceAt t xv (some lv) (some hv) none).run Tryz.prog w=.ok r w):YieldsIf Tryz.prog ops S o r a :=
 .inl ⟨hw,fun w hw'=>by
  unfold execOp;simp only [ho,hx,hl,hh,Option.map_some,Option.map_none,Sem.run_bind,Sem.run_pure,Result.andThen_ok,hS w hw']⟩
theorem step_update {w:World} {K:Act→World→Prop} {Q:Exit→Act→World→Prop} {E:Prop} (hw:Region.wanted o (yielded ops a.tmps)=true) {t:TypeId} (m x v:Operand) (ho:o.op=.mapUpdate t m x v) (mv xv vv:Value) (hm:a.eval m=mv) (hx:a.eval x=xv) (hv:a.eval v=vv)
 {w':World} (hr:(Instr.mapUpdate t mv xv vv).run Tryz.prog w=.ok () w') (hK:K (a.put o.dst undef) w'):if Region.wanted o (yielded ops a.tmps)=true then Oper.wp Tryz.prog o a w K Q else E:=by
 rw [if_pos hw];unfold Oper.wp;simp [execOp,ho,hm,hx,hv,hr,Result.andThen];exact hK
theorem step_build1 {w:World} {K:Act→World→Prop} {Q:Exit→Act→World→Prop} {E:Prop} (hw:Region.wanted o (yielded ops a.tmps)=true) (x:Operand) (ho:o.op=.buildSlice 34 1 #[(0,x)]) (s:ByteArray) (hx:a.eval x=.string s)
 (hK:K (a.put o.dst (.slice (some ⟨w.heap.size,0,none⟩) 1 1)) (w.alloc (.cells #[.string s] 9))):if Region.wanted o (yielded ops a.tmps)=true then Oper.wp Tryz.prog o a w K Q else E:=by
 have hI:(Tryz.prog.info? 9).map (fun i=>(i.size,i.zero))=some (1,some (.string ⟨#[]⟩)):=by kernel_rfl
 have hr:(Instr.buildSlice 34 1 #[(0,Value.string s)]).run Tryz.prog w=.ok (.slice (some ⟨w.heap.size,0,none⟩) 1 1) (w.alloc (.cells #[.string s] 9)):=by
  cases hie:Tryz.prog.info? 9 with
  | none=>rw [hie] at hI;cases hI
  | some ie =>
   rw [hie] at hI;simp only [Option.map_some,Option.some.injEq,Prod.mk.injEq] at hI;refine run_buildSlice (P:=Tryz.prog) w 34 9 1 _ _ ie _ Tryz.underlying34 hie hI.2 (by rw [hI.1];omega) (by rw [hI.1];omega) ?_
   rw [hI.1];refine (Great.fill_whole (s:=1) (by omega) [Value.string s] _ (fun v hv=>?_) (by simp)).trans (by simp [Value.cells])
   simp only [List.mem_singleton] at hv;subst hv;rfl
 rw [if_pos hw];unfold Oper.wp;simp only [execOp,ho,hx,Sem.run_bind,List.map_toArray,List.map_cons,List.map_nil,hr,Result.andThen];exact hK
theorem step_append_run {P:Program} {ops:Array Oper} {o:Oper} {a:Act} {w:World} {K:Act→World→Prop} {Q:Exit→Act→World→Prop} {E:Prop}
 (hg:o.guard=none) (s x:Operand) (sT xT:TypeId) (hop:o.op=Op.call { callee:=Callee.builtin Builtin.append,args:=#[s,x],argTypes:=#[sT,xT] })
 (v u:Value) (hs:a.eval s=v) (hx:a.eval x=u) {v':Value} {w':World} (hr:(Builtin.append_ #[sT,xT] o.type #[v,u]).run P w=.ok v' w') (hK:K (a.put o.dst v') w') :
 if Region.wanted o (yielded ops a.tmps)=true then Oper.wp P o a w K Q else E:=by
 have hw:Region.wanted o (yielded ops a.tmps)=true:=by simp [Region.wanted,hg]
 rw [if_pos hw];unfold Oper.wp;simp [execOp,hop,resolve,invoke,builtin,hs,hx,hr,Result.andThen];exact hK
end
structure Bx where
 tb:Nat
 db:Nat
 lb:Nat
 fb:Nat
 rb:Nat
 L:Nat
 D:Nat
 pm:Nat
 B:Nat
 fv:Value
def readV (x:Bx):Value:=.func (.func 42) #[] #[ptrV x.tb,ptrV x.db,ptrV x.lb,ptrV x.fb,ptrV x.rb]
structure Env (x:Bx) (fs:Fl) (w:World):Prop where
 t:Has w x.tb 101 #[.map (some x.pm)]
 d:Has w x.db 103 #[.map (some x.D)]
 l:Has w x.lb 30 #[ptrV x.L]
 f:Has w x.fb 23 #[x.fv]
 r:Has w x.rb 107 #[readV x]
 places:∃c,MapZ w (.int .i64 0) x.pm c (plF fs 0)
 ne:x.pm≠x.D
 lowD:x.B≤x.D
theorem Env.fr {x:Bx} {fs:Fl} {w W:World} {r:Option Nat} (h:Env x fs w) (hf:Fr x.L x.D r w W):Env x fs W:=by
 refine ⟨hf.has h.t (by decide) (by decide) (by decide),hf.has h.d (by decide) (by decide) (by decide),hf.has h.l (by decide) (by decide) (by decide),hf.has h.f (by decide) (by decide) (by decide),hf.has h.r (by decide) (by decide) (by decide),?_,h.ne,h.lowD⟩
 obtain ⟨c,hp⟩:=h.places;obtain ⟨es,ck,ho⟩:=hp.obj;exact ⟨c,hp.kept ((hf.2 _ _ ho (Calm.map h.ne)).trans ho.symm)⟩
theorem Env.below {x:Bx} {fs:Fl} {w W:World} (h:Env x fs w) (hb:Below w.heap.size w W):Env x fs W:=h.fr (r:=none) (Fr.of_below hb)
def rdV (d a b:Nat):Value:=.agg #[.int .i64 (d:Int),.int .i64 (a:Int),.int .i64 (b:Int)]
def Done (fs:Fl) (f:Value→Option Value) (c:Nat) (ps:List By):Prop :=
 (∀name v,f (.string (ba name))=some v→∃d a b,v=rdV d a b∧d≤3∧a≤b∧b≤ps.length∧flat fs (4 - d) name=some ((ps.drop a).take (b - a))) ∧
 ∃ks:List By,ks.Nodup∧ks.length=c∧(∀k∈ks,k∈fs.map (·.1))∧∀name,(f (.string (ba name))).isSome=true↔name∈ks
theorem Done.none (fs:Fl) (ps:List By):Done fs (fun _=>none) 0 ps:=⟨fun _ _ h=>by simp at h,[],List.nodup_nil,rfl,fun _ h=>absurd h List.not_mem_nil,fun _=>by simp⟩
theorem Done.more {fs:Fl} {f:Value→Option Value} {c:Nat} {ps:List By} (h:Done fs f c ps) (qs:List By):Done fs f c (ps++qs):=by
 refine ⟨fun name v hv=>?_,h.2⟩
 obtain ⟨d,a,b,h1,h2,h3,h4,h5⟩:=h.1 name v hv;refine ⟨d,a,b,h1,h2,h3,by rw [List.length_append];omega,?_⟩
 rw [h5,List.drop_append_of_le_length (by omega),List.take_append_of_le_length (by rw [List.length_drop];omega)]
theorem nodup_le {ks l:List By} (h:ks.Nodup) (hs:∀k∈ks,k∈l):ks.length≤l.length:=by
 induction ks generalizing l with
 | nil=>simp
 | cons k ks ih =>
  have hk:=hs k (by simp)
  rw [List.nodup_cons] at h;have:=ih (l:=l.erase k) h.2 (fun y hy=>(List.mem_erase_of_ne (fun e=>by rw [e] at hy;exact h.1 hy)).2 (hs y (by simp [hy])))
  rw [List.length_erase_of_mem hk] at this;have h0:0 < l.length:=List.length_pos_of_mem hk;simp only [List.length_cons];omega
theorem Done.few {fs:Fl} {f:Value→Option Value} {c:Nat} {ps:List By} (h:Done fs f c ps):c≤fs.length:=by
 obtain ⟨_,ks,h1,h2,h3,_⟩:=h;have:=nodup_le h1 h3;rw [List.length_map] at this;omega
open Classical in
theorem Done.put {fs:Fl} {f:Value→Option Value} {c:Nat} {ps:List By} (h:Done fs f c ps) {name:By} {d a b:Nat} (h0:name∈fs.map (·.1)) (h1:d≤3) (h2:a≤b) (h3:b≤ps.length) (h4:flat fs (4 - d) name=some ((ps.drop a).take (b - a))) :
 Done fs (fun y=>if y=.string (ba name) then some (rdV d a b) else f y) (if (f (.string (ba name))).isSome then c else c+1) ps:=by
 refine ⟨fun nm v hv=>?_,?_⟩
 · by_cases hn:Value.string (ba nm)=.string (ba name)
   · simp only [if_pos hn,Option.some.injEq] at hv
     rw [ba_str] at hn;subst hn;exact ⟨d,a,b,hv.symm,h1,h2,h3,h4⟩
   · simp only [if_neg hn] at hv
     exact h.1 nm v hv
 · obtain ⟨ks,k1,k2,k3,k4⟩:=h.2
   cases hs:(f (.string (ba name))).isSome with
   | true =>
    refine ⟨ks,k1,k2,k3,fun nm=>?_⟩
    by_cases hn:Value.string (ba nm)=.string (ba name)
    · rw [ba_str] at hn
      subst hn;show (if _ then some (rdV d a b) else _).isSome=true↔_
      rw [if_pos rfl,←k4,hs];simp
    · show (if _ then some (rdV d a b) else f (.string (ba nm))).isSome=true↔_
      rw [if_neg hn];exact k4 nm
   | false =>
    have hnm:name∉ks:=fun hm=>by rw [(k4 name).2 hm] at hs;cases hs
    refine ⟨name :: ks,List.nodup_cons.2 ⟨hnm,k1⟩,by simp [k2],fun k hk=>?_,fun nm=>?_⟩
    · rcases List.mem_cons.1 hk with rfl | hk
      · exact h0
      · exact k3 k hk
    · by_cases hn:Value.string (ba nm)=.string (ba name)
      · show (if _ then some (rdV d a b) else _).isSome=true↔_
        rw [if_pos hn];rw [ba_str] at hn;subst hn;simp
      · show (if _ then some (rdV d a b) else f (.string (ba nm))).isSome=true↔_
        rw [if_neg hn,k4 nm];have:nm≠name:=fun e=>hn (by rw [e])
        simp [this]
def zR:Value:=rdV 0 0 0
structure St (x:Bx) (fs:Fl) (ps:List By) (w:World):Prop where
 list:ListIs x.B w x.L ps
 done:∃c f,MapZ w zR x.D c f∧Done fs f c ps
 low:x.B≤x.L
theorem St.below {x:Bx} {fs:Fl} {ps:List By} {w W:World} (h:St x fs ps w) (hb:Below w.heap.size w W):St x fs ps W:=by
 obtain ⟨c,f,h1,h2⟩:=h.done;exact ⟨h.list.below hb,⟨c,f,h1.kept (hb.block _ h1.inside),h2⟩,h.low⟩
def strV (s:By):Value:=.string (ba s)
def Ar (B:Nat) (w:World) (v:Value) (within:List By):Prop:=w.ownsRow B 9 1 v within.length (within.map strV)
theorem infoStr:(Tryz.prog.info? 9).map (fun i=>(i.zero,i.size,i.bytes))=some (some (.string ⟨#[]⟩),1,16):=by kernel_rfl
theorem append_str {B:Nat} {w:World} {v:Value} {l:List By} {s:By} {g:Nat} (h:Ar B w v l) (hg:Has w g 9 #[.string (ba s)]) (hn:l.length≤100000) (hB:B≤w.heap.size) (ty:TypeId) :
 ∃v' w',(Builtin.append_ #[34,34] ty #[v,.slice (some ⟨g,0,none⟩) 1 1]).run Tryz.prog w=.ok v' w'∧Ar B w' v' (l++[s])∧Ar B w' v l∧w.grownBy w' v.ownBlock∧(v'.ownBlock=v.ownBlock∨v'.ownBlock=some w.heap.size):=by
 obtain ⟨i0,hi,hz0,hz1,hz2⟩:=info_parts infoStr;obtain ⟨v',w',hr,h1,h2,h3,h4⟩:=append_old (w:=w) (B:=B) (t:=34) (ty:=ty) Tryz.underlying34 hi hz0 hz1 hz2 rfl (by omega) h (a:=⟨g,0,none⟩) (m:=1) (c:=1) (news:=[strV s]) rfl (fun j u hj=>by
  match j,hj with
  | 0,hj=>simp at hj;subst hj;exact hg.at_ 0
  | j+1,hj=>simp at hj) (fun u hu=>by simp only [List.mem_singleton] at hu;subst hu;rfl) (by omega) (by omega) hB
 refine ⟨v',w',hr,?_,h2,h3,h4⟩;unfold Ar;rw [List.length_append,List.map_append];exact h1
theorem Fr.of_str {L D:Nat} {w W:World} {v:Value} {B:Nat} {l:List By} (h:Ar B w v l) (hg:w.grownBy W v.ownBlock):Fr L D v.ownBlock w W:=by
 refine ⟨hg.size,fun j o ho hc=>(hg.block j (Array.getElem?_eq_some_iff.1 ho).1 fun e=>?_).trans ho⟩
 obtain ⟨cs,q,h2⟩:=own_typed h j e.symm;exact hc.2.2.2 cs q (Option.some.inj (ho.symm.trans h2)) e
theorem Ar.fr {L D:Nat} {r:Option Nat} {B:Nat} {w W:World} {v:Value} {l:List By} (h:Ar B w v l) (hf:Fr L D r w W) (hr:∀k,v.ownBlock=some k→some k≠r):Ar B W v l:=by
 refine own_stays h fun k hk=>?_
 obtain ⟨cs,q,h2⟩:=own_typed h k hk;exact (hf.2 k _ h2 (Calm.strs (hr k hk))).trans h2.symm
theorem St.str {x:Bx} {fs:Fl} {ps:List By} {w W:World} {v:Value} {B:Nat} {l:List By} (h:St x fs ps w) (ha:Ar B w v l) (hg:w.grownBy W v.ownBlock):St x fs ps W:=by
 obtain ⟨c,f,h1,h2⟩:=h.done;obtain ⟨u,k1,gs,k2,k3⟩:=h.list;have hf:Fr 0 0 v.ownBlock w W:=Fr.of_str ha hg;have hk:∀j o,w.heap[j]? = some o→(∀cs q,o≠Obj.cells cs 9 q)→W.heap[j]? = w.heap[j]?:=fun j o ho hn=>hg.block j (Array.getElem?_eq_some_iff.1 ho).1 fun e=>by
  obtain ⟨cs,q,h2⟩:=own_typed ha j e.symm;exact hn cs q (Option.some.inj (ho.symm.trans h2))
 have hc:∀(cs:Array Value) (t:TypeId) (q:Nat × Nat),t≠9→∀cs' q',Obj.cells cs t q≠Obj.cells cs' 9 q':=fun cs t q ht cs' q' e=>by
  simp only [Obj.cells.injEq] at e;exact ht e.2.1
 refine ⟨⟨u,(hk _ _ k1 (hc _ _ _ (by decide))).trans k1,gs,own_stays k2 fun k hk2=>?_,k3.fr hf⟩,⟨c,f,h1.kept ?_,h2⟩,h.low⟩
 · obtain ⟨cs,q,h3⟩:=own_typed k2 k hk2
   exact hk _ _ h3 (hc _ _ _ (by decide))
 · obtain ⟨es,ck,h3⟩:=h1.obj
   exact hk _ _ h3 (fun _ _ e=>nomatch e)
def ReadOk (x:Bx) (fs:Fl) (w0:World) (k:Nat):Prop :=
 ∀(within:List By) (name:By) (ps:List By) (v:Value) (w:World),within.length+k=4→name.length≤1000000000000000→Env x fs w→St x fs ps w→Ar x.B w v within→Chain fs within name→ps.length≤64→Below x.B w0 w →
  Calls Tryz.prog 42 #[.string (ba name),v,ptrV x.tb,ptrV x.db,ptrV x.lb,ptrV x.fb,ptrV x.rb] w fun e W =>
   Out (readL fs k within name ps) e True (fun qs=>St x fs qs W∧Ar x.B W v within)∧Fr x.L x.D v.ownBlock w W∧Below x.B w0 W
structure Ln (x:Bx) (fs:Fl) (w0 W1:World) (within:List By) (name:By) (v:Value) (nb ab:Nat) (ps:List By) (w:World):Prop where
 env:Env x fs w
 st:St x fs ps w
 nbx:Has w nb 9 #[.string (ba name)]
 abx:Has w ab 34 #[v]
 ar:Ar x.B w v within
 few:ps.length≤64
 fr:Fr x.L x.D v.ownBlock W1 w
 low:Below x.B w0 w
 ne:some nb≠v.ownBlock
theorem Ln.below {x:Bx} {fs:Fl} {w0 W1:World} {within:List By} {name:By} {v:Value} {nb ab:Nat} {ps:List By} {w W:World} (h:Ln x fs w0 W1 within name v nb ab ps w) (hb:Below w.heap.size w W):Ln x fs w0 W1 within name v nb ab ps W :=
 ⟨h.env.below hb,h.st.below hb,h.nbx.stays hb,h.abx.stays hb,own_below h.ar hb,h.few,h.fr.thenG hb,h.low.trans (hb.mono (by have:=h.st.low;obtain ⟨_,k,_⟩:=h.st.list;have:=k.inside;omega)),h.ne⟩
theorem Ln.size {x:Bx} {fs:Fl} {w0 W1:World} {within:List By} {name:By} {v:Value} {nb ab:Nat} {ps:List By} {w:World} (h:Ln x fs w0 W1 within name v nb ab ps w):x.B≤w.heap.size:=by
 have:=h.st.low;obtain ⟨_,k,_⟩:=h.st.list;have:=k.inside;omega
set_option maxHeartbeats 2000000 in
theorem tell_plain (x:Bx) (fs:Fl) (w0 W1:World) (k:Nat) (within:List By) (name:By) (v:Value) (nb ab:Nat) (ps:List By) (s:By) (w:World) (h:Ln x fs w0 W1 within name v nb ab ps w) (hs:s.length≤100000) (hp:pre incM s=false) :
 Calls Tryz.prog 46 #[.string (ba s),ptrV x.rb,ptrV ab,ptrV nb,ptrV x.lb] w fun e W =>
  Out (lineL (readL fs k (within++[name])) s ps) e (Fr x.L x.D v.ownBlock W1 W∧Below x.B w0 W) (fun qs=>Ln x fs w0 W1 within name v nb ab qs W):=by
 have HL:Hid (lineL (readL fs k (within++[name])) s ps=lineP s ps):=by show _=_;unfold lineL;rw [if_neg (by rw [hp];decide)]
 have HH:=hid h;have HCP:=hid (fun W=>cut_any s incM W)
 rw [hp] at HCP;have HLP:=hid (lparse_any x.B x.L ps s w h.st.list h.few hs h.st.low);have c4:=h.env.l.at_ 0;rw [HL.out];obtain ⟨g,HG⟩:∃g,Hid (lineP s ps=g):=⟨_,rfl⟩;obtain ⟨u,HU⟩:∃u,Hid (cutP incM s=u):=⟨_,rfl⟩;rw [HU.out] at HCP;rw [HG.out] at HLP;rw [HG.out];unfold ptrV at c4 HLP;unfold ptrV;clear h hp hs;go_enter Tryz.func46,Tryz.ntmps46
 go_wp2_with (fail)
 refine (HCP.out _).mono ?_;rintro e1 w1 ⟨rfl,rfl⟩;go_wp2_with (fail)
 refine HLP.out.mono ?_;intro e2 w2 h2;obtain ⟨h2,hf,hb⟩:=h2;have HF:=hid hf;have HB:=hid hb
 cases g with
 | error c =>
  obtain ⟨rfl,hc,_⟩:=h2.of_err;have HC:=hid hc;clear h2 hf hb hc;go_wp2;go_ret;exact Out.err rfl rfl HC.out ⟨HH.out.fr.tr (HF.out x.D _),HB.out _ HH.out.low⟩
 | ok rs =>
  obtain ⟨rfl,hl⟩:=h2.of_ok;have HLS:=hid hl;clear h2 hf hb hl;go_wp2;go_ret;refine Out.ok rfl rfl ?_;have hrs:rs=ps++[s]∧ps.length < 64:=by
   have:=HG.out;unfold lineP at this;split at this
   · cases this
   · split at this
     · cases this
     · simp only [Except.ok.injEq] at this;exact ⟨this.symm,by have:=HH.out.few;omega⟩
  have hfr:=HF.out x.D none;have hfv:=HF.out x.D v.ownBlock;obtain ⟨c,f,k1,k2⟩:=HH.out.st.done;have hD:w2.heap[x.D]? = w.heap[x.D]?:=by
   obtain ⟨es,ck,ho⟩:=k1.obj;exact ((HF.out (x.D+1) none).2 _ _ ho (Calm.map (by omega))).trans ho.symm
  exact ⟨HH.out.env.fr hfr,⟨HLS.out,⟨c,f,k1.kept hD,by rw [hrs.1];exact k2.more _⟩,HH.out.st.low⟩,hfr.str HH.out.nbx (fun e=>nomatch e),hfr.has HH.out.abx (by decide) (by decide) (by decide),HH.out.ar.fr hfr (fun k _ e=>nomatch e),by rw [hrs.1,List.length_append,List.length_singleton];omega,HH.out.fr.tr hfv,HB.out _ HH.out.low,HH.out.ne⟩
end Go.Proofs.YtahkcemdbfjilaaGreatDoor.Glob
