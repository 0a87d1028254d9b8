/- Several texts in one. Conditions: those said at each. -/
import Derived.Test.YtahkcemdbfjilaaGreatDoorIt00
import Derived.Test.YtahkcemdbfjilaaGreatDoorIt21
import Derived.Deep.DeepCutAuto
set_option linter.unusedSimpArgs false
set_option linter.unusedVariables false
set_option maxRecDepth 100000
namespace Go.Proofs.YtahkcemdbfjilaaGreatDoor.Glob
open Go.RowKit
def PatIs (w:World) (g:Nat) (s:By) (p:Pt):Prop :=
 ∃v,Has w g 215 #[.string (ba s),.int .i64 (p.m:Int),.bool p.rooted,v]∧Els 0 w v p.hs∧0 < p.hs.length∧p.hs.length≤128∧p.m < 8
theorem PatIs.stays {w w':World} {g:Nat} {s:By} {p:Pt} (h:PatIs w g s p) (hb:Below w.heap.size w w'):PatIs w' g s p:=by
 obtain ⟨v,h1,h2,h3⟩:=h;exact ⟨v,h1.stays hb,h2.stays hb,h3⟩
def ParseIs (s:By) (e:Ending) (w':World):Prop :=
 if 128 < s.length then e=.returned (.tuple #[.pointer none,.int .i64 3])
 else match parseL s with
 | none=>e=.returned (.tuple #[.pointer none,.int .i64 4])
 | some p=>∃g,e=.returned (.tuple #[.pointer (some ⟨g,0,none⟩),.int .i64 0])∧PatIs w' g s p
theorem parse_marks {s:By} (h:marks 0 s=none):parseL s=none:=by unfold parseL;rw [h]
theorem parse_form {s t:By} {m:Nat} (h:marks 0 s=some (m,t)):parseL s=match elems (cutP [47] t) [] with | none=>none | some l=>some ⟨m,pre [47] t,l⟩:=by unfold parseL;rw [h];rfl
theorem marksF_lt (n:Nat):∀m s k t,m < 8→marksF n m s=some (k,t)→k < 8:=by
 induction n with
 | zero=>intro m s k t hm h;simp only [marksF,Option.some.injEq,Prod.mk.injEq] at h;omega
 | succ n ih =>
  intro m s k t hm h;unfold marksF at h;split at h
  · simp only [Option.some.injEq,Prod.mk.injEq] at h;omega
  · split at h
    · cases h
    · exact ih _ _ _ _ (or8 m _ hm (cutM_le s)).2 h
theorem int_ne0 (a:Nat):((a:Int) != 0)=(a != 0):=by
 rw [Bool.eq_iff_iff];simp
set_option maxHeartbeats 1000000 in
theorem parse_any (s:By) (w:World):Calls Tryz.prog 93 #[.string (ba s)] w fun e w'=>ParseIs s e w'∧Below w.heap.size w w':=by
 have z:=ba_size s;by_cases hl:128 < s.length
 · have HP:Hid (∀e w',e=Ending.returned (.tuple #[.pointer none,.int .i64 3])→ParseIs s e w'):=fun e w' h=>by unfold ParseIs;rw [if_pos hl];exact h
   have hi:(128:Int) < (s.length:Int):=by omega
   clear hl;go_enter Tryz.func93,Tryz.ntmps93
   go_wp2;go_ret2;exact ⟨HP.out _ _ rfl,Below.refl _ _⟩
 · have hi:¬((128:Int) < (s.length:Int)):=by omega
   have HL:=hid hl;have hm:=cutMarks_any s
   cases hx:marks 0 s with
   | none =>
    have HP:Hid (∀e w',e=Ending.returned (.tuple #[.pointer none,.int .i64 4])→ParseIs s e w'):=fun e w' h=>by unfold ParseIs;rw [if_neg hl,parse_marks hx];exact h
    rw [hx] at hm;simp only [msV] at hm;have hcp:∀W,Calls Tryz.prog 47 #[.string ⟨#[]⟩,.string ⟨#[47]⟩] W fun e w'=>e=.returned (.tuple #[.string ⟨#[]⟩,.bool false])∧W=w':=fun W=>cut_any [] [47] W
    have hce:∀W,Calls Tryz.prog 147 #[.string ⟨#[]⟩,.bool false] W fun e w'=>(∃v,e=.returned (.tuple #[v,.bool false]))∧Below W.heap.size W w':=fun W=>elems_any [] false W (by simp)
    have hb2:Go.bits .and .i64 0 2=0:=by decide
    clear hl hx;go_enter Tryz.func93,Tryz.ntmps93
    go_wp2_with (first
     | (go_at_call 146;refine (hm _).mono ?_;rintro e1 w1 ⟨⟨rfl,_⟩,n1,rfl⟩)
     | (go_at_call 47;refine (hcp _).mono ?_;rintro e2 w2 ⟨rfl,rfl⟩)
     | (go_at_call 147;refine (hce _).mono ?_;rintro e3 w3 ⟨⟨v,rfl⟩,hb3⟩))
    go_ret2;exact ⟨HP.out _ _ rfl,((Below.refl _ _).drewG n1).thenG hb3⟩
   | some y =>
    obtain ⟨m,t⟩:=y;have hlt:t.length≤s.length:=marksF_len _ _ _ _ _ hx;have hpf:=parse_form hx;rw [hx] at hm;simp only [msV] at hm;have hcp:∀W,Calls Tryz.prog 47 #[.string (ba t),.string ⟨#[47]⟩] W fun e w'=>e=.returned (.tuple #[.string (ba (cutP [47] t)),.bool (pre [47] t)])∧W=w':=fun W=>cut_any t [47] W
    have hul:(cutP [47] t).length≤128:=by have:=cutP_len [47] t;omega
    generalize cutP [47] t=u at hcp hul hpf;generalize pre [47] t=b at hcp hpf;have hm8:m < 8:=marksF_lt _ _ _ _ _ (by omega) hx
    have hb2:Go.bits .and .i64 (m:Int) 2=((m &&& 2:Nat):Int):=and8 m 2 hm8 (by omega)
    obtain ⟨fo,hfo⟩:∃fo:Bool,(m &&& 2 != 0)=fo:=⟨_,rfl⟩;have hne:=int_ne0 (m &&& 2);rw [hfo] at hne;have hce:=elems_any u fo
    cases hy:elems u [] with
    | none =>
     have HP:Hid (∀e w',e=Ending.returned (.tuple #[.pointer none,.int .i64 4])→ParseIs s e w'):=fun e w' h=>by unfold ParseIs;rw [if_neg hl,hpf,hy];exact h
     rw [hy] at hce;simp only at hce;generalize m &&& 2=a at hb2 hne;clear hl hx hpf hfo hy HL hlt hm8;go_enter Tryz.func93,Tryz.ntmps93
     go_wp2_with (first
      | (go_at_call 146;refine (hm _).mono ?_;rintro e1 w1 ⟨⟨rfl,_⟩,n1,rfl⟩)
      | (go_at_call 47;refine (hcp _).mono ?_;rintro e2 w2 ⟨rfl,rfl⟩)
      | (go_at_call 147;refine (hce _ hul).mono ?_;rintro e3 w3 ⟨⟨v,rfl⟩,hb3⟩))
     go_ret2;exact ⟨HP.out _ _ rfl,((Below.refl _ _).drewG n1).thenG hb3⟩
    | some l =>
     have HP:Hid (∀e w',(∃g,e=Ending.returned (.tuple #[.pointer (some ⟨g,0,none⟩),.int .i64 0])∧PatIs w' g s ⟨m,b,l⟩)→ParseIs s e w'):=fun e w' h=>by unfold ParseIs;rw [if_neg hl,hpf,hy];exact h
     have HFO:Hid ((⟨m,b,l⟩:Pt).hs=hsOf fo l):=by show _=_;unfold Pt.hs Pt.folded;rw [hfo]
     have HLL:Hid (0 < l.length∧l.length≤128):=by
      have:=elemsF_len _ _ _ _ hy;simp at this;exact ⟨this.2,by omega⟩
     have HM:=hid hm8;rw [hy] at hce;simp only at hce;generalize m &&& 2=a at hb2 hne;clear hl hx hpf hfo hy HL hlt hm8;go_enter Tryz.func93,Tryz.ntmps93
     go_wp2_with (first
      | (go_at_call 146;refine (hm _).mono ?_;rintro e1 w1 ⟨⟨rfl,_⟩,n1,rfl⟩)
      | (go_at_call 47;refine (hcp _).mono ?_;rintro e2 w2 ⟨rfl,rfl⟩)
      | (go_at_call 147;refine (hce _ hul).mono ?_;rintro e3 w3 ⟨⟨v,rfl,he⟩,hb3⟩
         have HEL:=hid he;have HB3:Hid (Below w.heap.size w w3):=((Below.refl _ _).drewG n1).thenG hb3;obtain ⟨A,c,rfl⟩:=he.form;clear he hb3))
     go_ret2;have B4:Below w3.heap.size w3 (w3.alloc (.cells #[.string (ba s),.int .i64 (m:Int),.bool b,.slice A (hsOf fo l).length c] 215)):=(Below.refl _ _).alloc (Nat.le_refl _) _;refine ⟨HP.out _ _ ⟨_,rfl,_,Has.fresh w3 215 _,?_⟩,HB3.out.thenG B4⟩;rw [HFO.out];refine ⟨(HEL.out.mono (Nat.zero_le _)).stays B4,?_⟩;rw [hsOf_len];exact ⟨HLL.out.1,HLL.out.2,HM.out⟩
end Go.Proofs.YtahkcemdbfjilaaGreatDoor.Glob
namespace Go.Proofs.YtahkcemdbfjilaaGreatDoor.Glob
open Go.RowKit
theorem PatIs.cells {w:World} {g:Nat} {s:By} {p:Pt} (h:PatIs w g s p):∃A c n,0 < n∧w.cell? ⟨g,0,none⟩=some (.string (ba s))∧w.cell? ⟨g,1,none⟩=some (.int .i64 (p.m:Int))∧w.cell? ⟨g,2,none⟩=some (.bool p.rooted)∧w.cell? ⟨g,3,none⟩=some (.slice A n c)∧n=p.hs.length∧p.m < 8:=by
 obtain ⟨v,h1,h2,h3,h4,h5⟩:=h;obtain ⟨A,c,rfl⟩:=h2.form;exact ⟨A,c,p.hs.length,h3,h1.at_ 0,h1.at_ 1,h1.at_ 2,h1.at_ 3,rfl,h5⟩
theorem made_yes {g:Nat} {s:By} {p:Pt} {w:World} (h:PatIs w g s p):Calls Tryz.prog 192 #[.pointer (some ⟨g,0,none⟩)] w fun e w'=>e=.returned (.bool true)∧w=w':=by
 obtain ⟨A,c,n,hn,k0,k1,k2,k3,hn2,_⟩:=h.cells;clear hn2;clear h;go_enter Tryz.func192,Tryz.ntmps192
 go_wp2;go_ret;exact ⟨rfl,rfl⟩
theorem has_yes {g:Nat} {s:By} {p:Pt} {w:World} (h:PatIs w g s p) (k:Nat) (hk:k < 8):Calls Tryz.prog 195 #[.pointer (some ⟨g,0,none⟩),.int .i64 (k:Int)] w fun e w'=>e=.returned (.bool (p.m &&& k != 0))∧w=w':=by
 have hm:=made_yes h;obtain ⟨A,c,n,hn,k0,k1,k2,k3,hn2,h8⟩:=h.cells;clear hn2;have hb2:=and8 p.m k h8 hk;have hne:=int_ne0 (p.m &&& k);generalize (p.m &&& k)=a at hb2 hne;obtain ⟨b,hb⟩:∃b,(a != 0)=b:=⟨_,rfl⟩;rw [hb] at hne;rw [hb];generalize p.m=m at k1 hb2;clear h hb h8 k0 k2 k3;go_enter Tryz.func195,Tryz.ntmps195
 go_wp2_with (go_at_call 192;refine hm.mono ?_;rintro e1 w1 ⟨rfl,rfl⟩)
 go_ret;exact ⟨rfl,rfl⟩
theorem Negated_yes {g:Nat} {s:By} {p:Pt} {w:World} (h:PatIs w g s p):Calls Tryz.prog 159 #[.pointer (some ⟨g,0,none⟩)] w fun e w'=>e=.returned (.bool (p.m &&& 1 != 0))∧w=w':=by
 have hc:Calls Tryz.prog 195 #[.pointer (some ⟨g,0,none⟩),.int .i64 1] w fun e w'=>e=.returned (.bool (p.m &&& 1 != 0))∧w=w':=has_yes h 1 (by omega)
 generalize (p.m &&& 1 != 0)=b at hc;clear h;go_enter Tryz.func159,Tryz.ntmps159
 go_wp2_with (go_at_call 195;refine hc.mono ?_;rintro e1 w1 ⟨rfl,rfl⟩)
 go_ret;exact ⟨rfl,rfl⟩
theorem Deletable_yes {g:Nat} {s:By} {p:Pt} {w:World} (h:PatIs w g s p):Calls Tryz.prog 160 #[.pointer (some ⟨g,0,none⟩)] w fun e w'=>e=.returned (.bool (p.m &&& 4 != 0))∧w=w':=by
 have hc:Calls Tryz.prog 195 #[.pointer (some ⟨g,0,none⟩),.int .i64 4] w fun e w'=>e=.returned (.bool (p.m &&& 4 != 0))∧w=w':=has_yes h 4 (by omega)
 generalize (p.m &&& 4 != 0)=b at hc;clear h;go_enter Tryz.func160,Tryz.ntmps160
 go_wp2_with (go_at_call 195;refine hc.mono ?_;rintro e1 w1 ⟨rfl,rfl⟩)
 go_ret;exact ⟨rfl,rfl⟩
end Go.Proofs.YtahkcemdbfjilaaGreatDoor.Glob
namespace Go.Proofs.YtahkcemdbfjilaaGreatDoor.Glob
open Go.RowKit
theorem zcells:Tryz.zeroCells258=plv (fun _=>false):=by kernel_rfl
theorem iPlaces (A:Pl):(Tryz.prog.info? 258).map (·.size)=some (plv A).size:=by rw [plv_size];kernel_rfl
theorem PatIs.els {w:World} {g:Nat} {s:By} {p:Pt} (h:PatIs w g s p):∃ge c,w.cell? ⟨g,3,none⟩=some (.slice (some ⟨ge,0,none⟩) p.hs.length c)∧g < w.heap.size∧ge < w.heap.size∧p.hs.length≤128∧∀(k:Nat) x,p.hs[k]? = some x→∃f,w.cell? ⟨ge,k*2,none⟩=some f∧w.cell? ⟨ge,k*2+1,none⟩=some (.bool x.2)∧IsFn w f x.1:=by
 obtain ⟨v,h1,h2,h3,h4,h5⟩:=h;obtain ⟨ge,c,rfl,_,hg,hk⟩:=h2.at_ h3;exact ⟨ge,c,h1.at_ 3,h1.inside,hg,h4,hk⟩
def skB (hs:H) (A:Pl) (k:Nat):Pl:=fun j=>if j≤k then skipA hs A j else A j
theorem skB_zero (hs:H) (A:Pl):skB hs A 0=A:=by
 funext j;unfold skB
 split
 · rename_i h;obtain rfl:=Nat.le_zero.1 h;rfl
 · rfl
theorem skB_at (hs:H) (A:Pl) (k:Nat):skB hs A k k=skipA hs A k:=by unfold skB;rw [if_pos (Nat.le_refl _)]
theorem skB_yes (hs:H) (A:Pl) (k:Nat) (h1:skipA hs A k=true) (h2:many hs k=true):(fun j=>skB hs A k j||j == k+1)=skB hs A (k+1):=by
 funext j;unfold skB
 by_cases h:j≤k
 · rw [if_pos h,if_pos (by omega)]
   have:(j == k+1)=false:=by simp;omega
   rw [this,Bool.or_false]
 · rw [if_neg h]
   by_cases e:j=k+1
   · subst e;rw [if_pos (Nat.le_refl _),skipA,h1,h2];simp
   · rw [if_neg (by omega)];simp [e]
theorem skB_no (hs:H) (A:Pl) (k:Nat) (h:(skipA hs A k&&many hs k)=false):skB hs A k=skB hs A (k+1):=by
 funext j;unfold skB
 by_cases h1:j≤k
 · rw [if_pos h1,if_pos (by omega)]
 · rw [if_neg h1]
   by_cases e:j=k+1
   · subst e;rw [if_pos (Nat.le_refl _),skipA,h,Bool.or_false]
   · rw [if_neg (by omega)]
theorem skip_past (hs:H) (A:Pl) (n:Nat) (hn:hs.length≤n):∀j,n < j→skipA hs A j=A j:=by
 intro j hj
 cases j with
 | zero=>omega
 | succ j=>rw [skipA,many_ge (by omega),Bool.and_false,Bool.or_false]
theorem skB_all (hs:H) (A:Pl):skB hs A hs.length=skipA hs A:=by
 funext j;unfold skB
 split
 · rfl
 · rw [skip_past hs A hs.length (Nat.le_refl _) j (by omega)]
theorem many_at {hs:H} {k:Nat} {x:(UInt8→Bool) × Bool} (h:hs[k]? = some x):many hs k=x.2:=by simp [many,List.getD,h]
theorem hold_at {hs:H} {k:Nat} {x:(UInt8→Bool) × Bool} (h:hs[k]? = some x) (c:UInt8):hold hs k c=x.1 c:=by simp [hold,List.getD,h]
set_option maxHeartbeats 2000000 in
theorem skip_any (g:Nat) (s:By) (p:Pt) (A:Pl) (w:World) (hp:PatIs w g s p) :
 Calls Tryz.prog 193 #[.pointer (some ⟨g,0,none⟩),.agg (plv A)] w fun e w'=>e=.returned (.agg (plv (skipA p.hs A)))∧Below w.heap.size w w':=by
 obtain ⟨ge,c,k3,hg,hge,hn,hel⟩:=hp.els;obtain ⟨W1,hW1⟩:∃W1,w.alloc (.cells (plv A) 258)=W1:=⟨_,rfl⟩;obtain ⟨W2,hW2⟩:∃W2,W1.alloc (.cells Tryz.zeroCells258 258)=W2:=⟨_,rfl⟩;have B1:Below w.heap.size w W1:=hW1▸(Below.refl _ _).alloc (Nat.le_refl _) _;have s1:W1.heap.size=w.heap.size+1:=by rw [←hW1];simp
 have B2:Below w.heap.size w W2:=hW2▸B1.alloc (by omega) _
 have H1:Has W2 w.heap.size 258 (plv A):=hW2▸(hW1▸Has.fresh w 258 (plv A)).more _;have H2:Has W2 (w.heap.size+1) 258 (plv (fun _=>false)):=hW2▸zcells▸Has.fresh' W1 258 Tryz.zeroCells258 s1.symm
 have c3:W2.cell? ⟨g,3,none⟩=some (.slice (some ⟨ge,0,none⟩) p.hs.length c):=(B2.cell (p:=⟨g,3,none⟩) hg).trans k3;have HB2:=hid B2;have HH1:=hid H1;have HH2:=hid H2;have HEL:=hid hel;generalize p.hs=hs at *;clear hp hel H1 H2 B1 B2 k3;go_enter Tryz.func193,Tryz.ntmps193
 go_wp2;go_loopw [5,6,12] (fun _ _ i wr=>∃k:Nat,i=.int .i64 (k:Int)∧k≤hs.length∧Hid (Has wr w.heap.size 258 (plv (skB hs A k)))∧Hid (Has wr (w.heap.size+1) 258 (plv (fun _=>false)))∧Hid (Below w.heap.size w wr))
  (fun _ _ i _=>hs.length - (intOf i).toNat)
 case atStart=>exact ⟨0,rfl,Nat.zero_le _,by rw [skB_zero];exact HH1,HH2,HB2⟩
 case round =>
  obtain ⟨k,rfl,hk,J1,J2,J3⟩:=hrel;by_cases hlt:k < hs.length
  · obtain ⟨x,hx⟩:∃x,hs[k]? = some x:=⟨hs[k],List.getElem?_eq_getElem hlt⟩
    obtain ⟨f,c0,c1,hf⟩:=HEL.out k x hx;obtain ⟨kf,lf,rfl⟩:=hf.form;have c0':=(J3.out.cell (p:=⟨ge,k*2,none⟩) hge).trans c0;have c1':=(J3.out.cell (p:=⟨ge,k*2+1,none⟩) hge).trans c1;obtain ⟨Wa,hWa⟩:∃Wa,wr.alloc (.cells #[.func (.func kf) #[] lf,.bool false] 249)=Wa:=⟨_,rfl⟩;obtain ⟨W3,hW3⟩:∃W3,Wa.setCell ⟨wr.heap.size,1,none⟩ (.bool x.2)=W3:=⟨_,rfl⟩;have hle:=J3.out.size;have hin:=J2.out.inside;have I4a:Has Wa wr.heap.size 249 #[.func (.func kf) #[] lf,.bool false]:=hWa▸Has.fresh _ _ _;have I1:Hid (Has W3 w.heap.size 258 (plv (skB hs A k))):=hW3▸(hWa▸J1.out.more _:Has Wa w.heap.size 258 (plv (skB hs A k))).other (by simp;omega) _
    have I2:Hid (Has W3 (w.heap.size+1) 258 (plv (fun _=>false))):=hW3▸(hWa▸J2.out.more _:Has Wa (w.heap.size+1) 258 (plv (fun _=>false))).other (by simp;omega) _
    have I3:Hid (Below w.heap.size w W3):=hW3▸(hWa▸J3.out.alloc hle _:Below w.heap.size w Wa).setCell hle _;have I4:Has W3 wr.heap.size 249 #[.func (.func kf) #[] lf,.bool x.2]:=hW3▸I4a.put 1 _;have ka:=I4a.at_ 1;have fa:=I4a.free 1;have q1:=I4.at_ 1;have q0:W3.cell? ⟨w.heap.size,k,none⟩=some (.bool (skipA hs A k)):=(I1.out.at_ k).trans ((plv_get _ k (by omega)).trans (by rw [skB_at]))
    have q2:W3.cell? ⟨w.heap.size,k+1,none⟩=some (.bool (skB hs A k (k+1))):=(I1.out.at_ (k+1)).trans (plv_get _ (k+1) (by omega))
    have f2:=I1.out.free (k+1);have hmx:=many_at hx;obtain ⟨m,hm⟩:∃m,x.2=m:=⟨_,rfl⟩;rw [hm] at hmx q1 hW3 c1';obtain ⟨b,hb⟩:∃b,skipA hs A k=b:=⟨_,rfl⟩;rw [hb] at q0;generalize skB hs A k (k+1)=b2 at q2;clear c0 c1 hf I4 hm hx
    cases b with
    | false =>
     have HN:Hid (skB hs A k=skB hs A (k+1)):=skB_no hs A k (by rw [hb];rfl)
     clear hb hmx;go_wp2;exact ⟨⟨k+1,by go_num,by omega,HN.out▸I1,I2,I3⟩,by simp [intOf];omega⟩
    | true =>
     cases m with
     | false =>
      have HN:Hid (skB hs A k=skB hs A (k+1)):=skB_no hs A k (by rw [hmx,Bool.and_false])
      clear hb hmx;go_wp2;exact ⟨⟨k+1,by go_num,by omega,HN.out▸I1,I2,I3⟩,by simp [intOf];omega⟩
     | true =>
      have HN:Hid ((fun j=>skB hs A k j||j == k+1)=skB hs A (k+1)):=skB_yes hs A k hb hmx
      clear hb hmx;go_wp2;refine ⟨⟨k+1,by go_num,by omega,?_,I2.out.other (by simp) _,I3.out.setCell (Nat.le_refl _) _⟩,by simp [intOf];omega⟩
      have:=I1.out.put (k+1) (.bool true);rw [plv_set,HN.out] at this;exact this
  · have hk2:k=hs.length:=by omega
    have J4:Hid (Has wr w.heap.size 258 (plv (skipA hs A))):=by have:=J1.out;rw [hk2,skB_all] at this;exact this
    clear J1 hk2;go_wp2_with (first
     | (refine wpList_load_row rfl 258 _ rfl w.heap.size rfl 258 _ (0,0) _ J4.out Tryz.underlying258 rfl (iPlaces _) ?_)
     | (refine wpList_store_row rfl 258 (.tmp 4) (.tmp 28) rfl (w.heap.size+1) (plv (skipA hs A)) rfl rfl 258 _ J2.out (iPlaces _) (by rw [plv_size,plv_size]) (plv_one _) ?_))
    refine bodyPost_ret (results_cell_row rfl _ _ (w.heap.size+1) 258 (plv (skipA hs A)) (0,0) _ rfl J2.out.row Tryz.underlying258 rfl (iPlaces _)) rfl ⟨rfl,J3.out.rowG (by omega) _⟩
end Go.Proofs.YtahkcemdbfjilaaGreatDoor.Glob
namespace Go.Proofs.YtahkcemdbfjilaaGreatDoor.Glob
open Go.RowKit
def nB (hs:H) (A:Pl) (c:UInt8) (i:Nat):Pl:=fun k=>(decide (k < i)&&many hs k&&A k&&hold hs k c)||(decide (0 < k∧k≤i)&&!many hs (k - 1)&&A (k - 1)&&hold hs (k - 1) c)
theorem nB_zero (hs:H) (A:Pl) (c:UInt8):nB hs A c 0=fun _=>false:=by
 funext k;unfold nB
 have e1:decide (k < 0)=false:=decide_eq_false (by omega)
 have e2:decide (0 < k∧k≤0)=false:=decide_eq_false (by omega)
 rw [e1,e2];rfl
theorem nB_all (hs:H) (A:Pl) (c:UInt8):nB hs A c hs.length=stepA hs A c:=rfl
theorem nB_other (hs:H) (A:Pl) (c:UInt8) (k j:Nat) (h1:j≠k) (h2:j≠k+1):nB hs A c (k+1) j=nB hs A c k j:=by
 unfold nB;have e1:decide (j < k+1)=decide (j < k):=by rw [decide_eq_decide];omega
 have e2:decide (0 < j∧j≤k+1)=decide (0 < j∧j≤k):=by rw [decide_eq_decide];omega
 rw [e1,e2]
theorem nB_k (hs:H) (A:Pl) (c:UInt8) (k:Nat):nB hs A c (k+1) k=(nB hs A c k k||(many hs k&&A k&&hold hs k c)):=by
 unfold nB;have e1:decide (k < k+1)=true:=decide_eq_true (by omega)
 have e2:decide (k < k)=false:=decide_eq_false (by omega)
 have e3:decide (0 < k∧k≤k+1)=decide (0 < k∧k≤k):=by rw [decide_eq_decide];omega
 rw [e1,e2,e3];simp only [Bool.true_and,Bool.false_and,Bool.false_or];rw [Bool.or_comm]
theorem nB_k1 (hs:H) (A:Pl) (c:UInt8) (k:Nat):nB hs A c (k+1) (k+1)=(nB hs A c k (k+1)||(!many hs k&&A k&&hold hs k c)):=by
 unfold nB;have e1:decide (k+1 < k+1)=false:=decide_eq_false (by omega)
 have e2:decide (k+1 < k)=false:=decide_eq_false (by omega)
 have e3:decide (0 < k+1∧k+1≤k+1)=true:=decide_eq_true (by omega)
 have e4:decide (0 < k+1∧k+1≤k)=false:=decide_eq_false (by omega)
 rw [e1,e2,e3,e4];simp
theorem nB_no (hs:H) (A:Pl) (c:UInt8) (k:Nat) (h:(A k&&hold hs k c)=false):nB hs A c k=nB hs A c (k+1):=by
 funext j
 by_cases h1:j=k
 · subst h1;rw [nB_k,Bool.and_assoc,h];simp
 · by_cases h2:j=k+1
   · subst h2;rw [nB_k1,Bool.and_assoc,h];simp
   · rw [nB_other _ _ _ _ _ h1 h2]
theorem nB_many (hs:H) (A:Pl) (c:UInt8) (k:Nat) (ha:A k=true) (hh:hold hs k c=true) (hm:many hs k=true):(fun j=>nB hs A c k j||j == k)=nB hs A c (k+1):=by
 funext j
 by_cases h1:j=k
 · subst h1;rw [nB_k,ha,hh,hm];simp
 · have e:(j == k)=false:=by simp [h1]
   rw [e,Bool.or_false];by_cases h2:j=k+1
   · subst h2;rw [nB_k1,hm];simp
   · rw [nB_other _ _ _ _ _ h1 h2]
theorem nB_one (hs:H) (A:Pl) (c:UInt8) (k:Nat) (ha:A k=true) (hh:hold hs k c=true) (hm:many hs k=false):(fun j=>nB hs A c k j||j == k+1)=nB hs A c (k+1):=by
 funext j
 by_cases h2:j=k+1
 · subst h2;rw [nB_k1,ha,hh,hm];simp
 · have e:(j == k+1)=false:=by simp [h2]
   rw [e,Bool.or_false];by_cases h1:j=k
   · subst h1;rw [nB_k,hm];simp
   · rw [nB_other _ _ _ _ _ h1 h2]
theorem iZ:Hid ((Tryz.prog.info? 258).map (·.size)=some Tryz.zeroCells258.size):=by show _=_;kernel_rfl
theorem zOne:Hid (Tryz.zeroCells258.all (·.oneCell')=true):=by show _=_;kernel_rfl
set_option maxHeartbeats 4000000 in
theorem step_any (g:Nat) (s:By) (p:Pt) (A:Pl) (c:UInt8) (w:World) (hp:PatIs w g s p) :
 Calls Tryz.prog 194 #[.pointer (some ⟨g,0,none⟩),.agg (plv A),.int .u8 (b8 c)] w fun e w'=>e=.returned (.agg (plv (stepA p.hs A c)))∧Below w.heap.size w w':=by
 obtain ⟨ge,cp,k3,hg,hge,hn,hel⟩:=hp.els;obtain ⟨W1,hW1⟩:∃W1,w.alloc (.cells (plv A) 258)=W1:=⟨_,rfl⟩;obtain ⟨W2,hW2⟩:∃W2,W1.alloc (.cells Tryz.zeroCells258 258)=W2:=⟨_,rfl⟩;obtain ⟨W5,hW5⟩:∃W5,W2.alloc (.cells Tryz.zeroCells258 258)=W5:=⟨_,rfl⟩;have B1:Below w.heap.size w W1:=hW1▸(Below.refl _ _).alloc (Nat.le_refl _) _;have s1:W1.heap.size=w.heap.size+1:=by rw [←hW1];simp
 have B2:Below w.heap.size w W2:=hW2▸B1.alloc (by omega) _
 have s2:W2.heap.size=w.heap.size+1+1:=by rw [←hW2];simp [s1]
 have B5:Below w.heap.size w W5:=hW5▸B2.alloc (by omega) _
 have H1:Has W5 w.heap.size 258 (plv A):=hW5▸(hW2▸(hW1▸Has.fresh w 258 (plv A)).more _:Has W2 w.heap.size 258 (plv A)).more _;have H2:Has W5 (w.heap.size+1) 258 (plv (fun _=>false)):=hW5▸(hW2▸zcells▸Has.fresh' W1 258 Tryz.zeroCells258 s1.symm:Has W2 (w.heap.size+1) 258 (plv (fun _=>false))).more _
 have H5:Has W5 (w.heap.size+1+1) 258 (plv (fun _=>false)):=hW5▸zcells▸Has.fresh' W2 258 Tryz.zeroCells258 s2.symm
 have c3:W5.cell? ⟨g,3,none⟩=some (.slice (some ⟨ge,0,none⟩) p.hs.length cp):=(B5.cell (p:=⟨g,3,none⟩) hg).trans k3;have HZ:Hid (Has W5 (w.heap.size+1+1) 258 Tryz.zeroCells258):=hW5▸Has.fresh' W2 258 Tryz.zeroCells258 s2.symm;obtain ⟨W6,hW6⟩:∃W6,W5.setRow (w.heap.size+1+1) Tryz.zeroCells258=W6:=⟨_,rfl⟩;have HH1:Hid (Has W6 w.heap.size 258 (plv A)):=hW6▸H1.rowOther (by omega)
 have HH2:Hid (Has W6 (w.heap.size+1) 258 (plv (fun _=>false))):=hW6▸H2.rowOther (by omega)
 have HH5:Hid (Has W6 (w.heap.size+1+1) 258 (plv (fun _=>false))):=hW6▸zcells▸H5.row
 have HB5:Hid (Below w.heap.size w W6):=hW6▸B5.rowG (by omega) _
 have c36:W6.cell? ⟨g,3,none⟩=some (.slice (some ⟨ge,0,none⟩) p.hs.length cp):=(HB5.out.cell (p:=⟨g,3,none⟩) hg).trans k3;have HEL:=hid hel;generalize p.hs=hs at *;clear hp hel H1 H2 H5 B1 B2 B5 k3 c3;go_enter Tryz.func194,Tryz.ntmps194
 go_wp2_with (refine wpList_store_row rfl 258 (.tmp 7) (.tmp 10) rfl (w.heap.size+1+1) Tryz.zeroCells258 rfl rfl 258 Tryz.zeroCells258 HZ.out iZ.out rfl zOne.out ?_)
 go_loopw [8,9,16] (fun _ _ i wr=>∃k:Nat,i=.int .i64 (k:Int)∧k≤hs.length∧Hid (Has wr w.heap.size 258 (plv A))∧Hid (Has wr (w.heap.size+1) 258 (plv (fun _=>false)))∧Hid (Has wr (w.heap.size+1+1) 258 (plv (nB hs A c k)))∧Hid (Below w.heap.size w wr))
  (fun _ _ i _=>hs.length - (intOf i).toNat)
 case atStart=>exact ⟨0,rfl,Nat.zero_le _,HH1,HH2,by rw [nB_zero];exact HH5,HB5⟩
 case round =>
  obtain ⟨k,rfl,hk,J1,J2,J5,J3⟩:=hrel;by_cases hlt:k < hs.length
  · obtain ⟨x,hx⟩:∃x,hs[k]? = some x:=⟨hs[k],List.getElem?_eq_getElem hlt⟩
    obtain ⟨f,c0,c1,hf⟩:=HEL.out k x hx;obtain ⟨kf,lf,rfl,ek,hkc⟩:=hf;have c0':=(J3.out.cell (p:=⟨ge,k*2,none⟩) hge).trans c0;have c1':=(J3.out.cell (p:=⟨ge,k*2+1,none⟩) hge).trans c1;obtain ⟨Wa,hWa⟩:∃Wa,wr.alloc (.cells #[.func (.func kf) #[] lf,.bool false] 249)=Wa:=⟨_,rfl⟩;obtain ⟨W3,hW3⟩:∃W3,Wa.setCell ⟨wr.heap.size,1,none⟩ (.bool x.2)=W3:=⟨_,rfl⟩;have hle:=J3.out.size;have hin:=J5.out.inside;have I4a:Has Wa wr.heap.size 249 #[.func (.func kf) #[] lf,.bool false]:=hWa▸Has.fresh _ _ _;have I1:Hid (Has W3 w.heap.size 258 (plv A)):=hW3▸(hWa▸J1.out.more _:Has Wa w.heap.size 258 (plv A)).other (by simp;omega) _
    have I2:Hid (Has W3 (w.heap.size+1) 258 (plv (fun _=>false))):=hW3▸(hWa▸J2.out.more _:Has Wa (w.heap.size+1) 258 (plv (fun _=>false))).other (by simp;omega) _
    have I5:Hid (Has W3 (w.heap.size+1+1) 258 (plv (nB hs A c k))):=hW3▸(hWa▸J5.out.more _:Has Wa (w.heap.size+1+1) 258 (plv (nB hs A c k))).other (by simp;omega) _
    have I3:Hid (Below w.heap.size w W3):=hW3▸(hWa▸J3.out.alloc hle _:Below w.heap.size w Wa).setCell hle _;have I4:Hid (Has W3 wr.heap.size 249 #[.func (.func kf) #[] lf,.bool x.2]):=hW3▸I4a.put 1 _;have ka:=I4a.at_ 1;have fa:=I4a.free 1;have q0:W3.cell? ⟨w.heap.size,k,none⟩=some (.bool (A k)):=(I1.out.at_ k).trans (plv_get _ k (by omega))
    have k4:=I4.out.at_ 0;have CF:=hid (hkc W3 c (Gx.of_below I3.out));have hmx:=many_at hx;have hhx:=hold_at hx c;obtain ⟨m,hm⟩:∃m,x.2=m:=⟨_,rfl⟩;rw [hm] at hmx I4 hW3 c1' k4;obtain ⟨h,hh⟩:∃h,x.1 c=h:=⟨_,rfl⟩;rw [hh] at hhx CF;obtain ⟨b,hb⟩:∃b,A k=b:=⟨_,rfl⟩;rw [hb] at q0;clear c0 c1 hkc I4a hm hx hh
    cases b with
    | false =>
     have HN:Hid (nB hs A c k=nB hs A c (k+1)):=nB_no hs A c k (by rw [hb];rfl)
     clear hb hmx hhx;go_wp2;exact ⟨⟨k+1,by go_num,by omega,I1,I2,HN.out▸I5,I3⟩,by simp [intOf];omega⟩
    | true =>
     cases h with
     | false =>
      have HN:Hid (nB hs A c k=nB hs A c (k+1)):=nB_no hs A c k (by rw [hhx,Bool.and_false])
      clear hb hmx hhx;go_wp2_with (go_at_fn kf;refine CF.out.mono ?_;rintro e1 w1 ⟨rfl,hb1⟩)
      exact ⟨⟨k+1,by go_num,by omega,I1.out.stays hb1,I2.out.stays hb1,HN.out▸I5.out.stays hb1,I3.out.thenG hb1⟩,by simp [intOf];omega⟩
     | true =>
      cases m with
      | true =>
       have HN:Hid ((fun j=>nB hs A c k j||j == k)=nB hs A c (k+1)):=nB_many hs A c k hb hhx hmx
       clear hb hmx hhx
       go_wp2_with (go_at_fn kf;refine CF.out.mono ?_;rintro e1 w1 ⟨rfl,hb1⟩
                    have K4:=(I4.out.stays hb1).at_ 1;have K5:=hid (I5.out.stays hb1);have q5:w1.cell? ⟨w.heap.size+1+1,k,none⟩=some (.bool (nB hs A c k k)):=(K5.out.at_ k).trans (plv_get _ k (by omega))
                    have f5:=K5.out.free k;generalize nB hs A c k k=bb at q5)
       refine ⟨⟨k+1,by go_num,by omega,(I1.out.stays hb1).other (by simp;omega) _,(I2.out.stays hb1).other (by simp) _,?_,(I3.out.thenG hb1).setCell (by simp;omega) _⟩,by simp [intOf];omega⟩
       have:=K5.out.put k (.bool true);rw [plv_set,HN.out] at this;exact this
      | false =>
       have HN:Hid ((fun j=>nB hs A c k j||j == k+1)=nB hs A c (k+1)):=nB_one hs A c k hb hhx hmx
       clear hb hmx hhx
       go_wp2_with (go_at_fn kf;refine CF.out.mono ?_;rintro e1 w1 ⟨rfl,hb1⟩
                    have K4:=(I4.out.stays hb1).at_ 1;have K5:=hid (I5.out.stays hb1);have q5:w1.cell? ⟨w.heap.size+1+1,k+1,none⟩=some (.bool (nB hs A c k (k+1))):=(K5.out.at_ (k+1)).trans (plv_get _ (k+1) (by omega))
                    have f5:=K5.out.free (k+1);generalize nB hs A c k (k+1)=bb at q5)
       refine ⟨⟨k+1,by go_num,by omega,(I1.out.stays hb1).other (by simp;omega) _,(I2.out.stays hb1).other (by simp) _,?_,(I3.out.thenG hb1).setCell (by simp;omega) _⟩,by simp [intOf];omega⟩
       have:=K5.out.put (k+1) (.bool true);rw [plv_set,HN.out] at this;exact this
  · have hk2:k=hs.length:=by omega
    have J4:Hid (Has wr (w.heap.size+1+1) 258 (plv (stepA hs A c))):=by have:=J5.out;rw [hk2,nB_all] at this;exact this
    clear J5 hk2;go_wp2_with (first
     | (refine wpList_load_row rfl 258 _ rfl (w.heap.size+1+1) rfl 258 _ (0,0) _ J4.out Tryz.underlying258 rfl (iPlaces _) ?_)
     | (refine wpList_store_row rfl 258 (.tmp 6) (.tmp 42) rfl (w.heap.size+1) (plv (stepA hs A c)) rfl rfl 258 _ J2.out (iPlaces _) (by rw [plv_size,plv_size]) (plv_one _) ?_))
    refine bodyPost_ret (results_cell_row rfl _ _ (w.heap.size+1) 258 (plv (stepA hs A c)) (0,0) _ rfl J2.out.row Tryz.underlying258 rfl (iPlaces _)) rfl ⟨rfl,J3.out.rowG (by omega) _⟩
end Go.Proofs.YtahkcemdbfjilaaGreatDoor.Glob
namespace Go.Proofs.YtahkcemdbfjilaaGreatDoor.Glob
open Go.RowKit
theorem startTryztrue (A:Pl):(fun j=>A j||j == 0)=startA true A:=by
 funext j;unfold startA;rw [Bool.true_and,Bool.or_comm]
theorem startTryzfalse (A:Pl):startA false A=A:=by
 funext j;unfold startA;rfl
theorem range_any_succ (p:Nat→Bool) (k:Nat):(List.range (k+1)).any p=((List.range k).any p||p k):=by
 rw [List.range_succ,List.any_append];simp
theorem range_any_yes (p:Nat→Bool) (n k:Nat) (h:k < n) (hp:p k=true):(List.range n).any p=true:=List.any_eq_true.2 ⟨k,List.mem_range.2 h,hp⟩
def hitB (rooted:Bool) (hs:H) (path:By) (i:Nat):Bool:=atA rooted hs path i hs.length&&endB path i
theorem mB_eq (rooted:Bool) (hs:H) (path:By):mB rooted hs path=(decide (path.length≤160)&&(List.range (path.length+1)).any (hitB rooted hs path)):=rfl
set_option maxHeartbeats 4000000 in
theorem match_long (g:Nat) (s:By) (p:Pt) (path:By) (w:World) (hp:PatIs w g s p) (hl:160 < path.length) :
 Calls Tryz.prog 158 #[.pointer (some ⟨g,0,none⟩),.string (ba path)] w fun e w'=>e=.returned (.bool (mB p.rooted p.hs path))∧Below w.heap.size w w':=by
 have HM:Hid (mB p.rooted p.hs path=false):=by show _=_;rw [mB_eq,decide_eq_false (by omega)];rfl
 have z:=ba_size path;have hi:(160:Int) < (path.length:Int):=by omega
 have hm:=made_yes hp;clear hl hp;go_enter Tryz.func158,Tryz.ntmps158
 go_wp2_with (go_at_call 192;refine hm.mono ?_;rintro e1 w1 ⟨rfl,rfl⟩)
 go_ret;exact ⟨ret_bool HM.out.symm,Below.refl _ _⟩
set_option maxHeartbeats 8000000 in
theorem match_short (g:Nat) (s:By) (p:Pt) (path:By) (w:World) (hp:PatIs w g s p) (hl:path.length≤160) :
 Calls Tryz.prog 158 #[.pointer (some ⟨g,0,none⟩),.string (ba path)] w fun e w'=>e=.returned (.bool (mB p.rooted p.hs path))∧Below w.heap.size w w':=by
 have HM:Hid (mB p.rooted p.hs path=(List.range (path.length+1)).any (hitB p.rooted p.hs path)):=by show _=_;rw [mB_eq,decide_eq_true hl];rfl
 have z:=ba_size path;have hi:¬((160:Int) < (path.length:Int)):=by omega
 have hm:=made_yes hp;obtain ⟨ge,cp,k3,hg,hge,hn,_⟩:=hp.els;have k2:w.cell? ⟨g,2,none⟩=some (.bool p.rooted):=by obtain ⟨A,c,n,_,_,_,h2,_⟩:=hp.cells;exact h2
 obtain ⟨W1,hW1⟩:∃W1,w.alloc (.cells Tryz.zeroCells258 258)=W1:=⟨_,rfl⟩;have HZ:Hid (Has W1 w.heap.size 258 Tryz.zeroCells258):=hW1▸Has.fresh _ _ _;have B1:Below w.heap.size w W1:=hW1▸(Below.refl _ _).alloc (Nat.le_refl _) _;obtain ⟨W2,hW2⟩:∃W2,W1.setRow w.heap.size Tryz.zeroCells258=W2:=⟨_,rfl⟩;have H2:Hid (Has W2 w.heap.size 258 (plv (fun _=>false))):=hW2▸zcells▸HZ.out.row
 have B2:Hid (Below w.heap.size w W2):=hW2▸B1.rowG (Nat.le_refl _) _;have CS:Hid (∀A W,Below w.heap.size w W→Calls Tryz.prog 193 #[.pointer (some ⟨g,0,none⟩),.agg (plv A)] W fun e w'=>e=.returned (.agg (plv (skipA p.hs A)))∧Below W.heap.size W w'):=fun A W hW=>skip_any g s p A W (hp.stays hW)
 have CP:Hid (∀A c W,Below w.heap.size w W→Calls Tryz.prog 194 #[.pointer (some ⟨g,0,none⟩),.agg (plv A),.int .u8 (b8 c)] W fun e w'=>e=.returned (.agg (plv (stepA p.hs A c)))∧Below W.heap.size W w'):=fun A c W hW=>step_any g s p A c W (hp.stays hW)
 have HK2:=hid k2;have HK3:=hid k3;rw [HM.out];generalize p.hs=hs at *;generalize p.rooted=rooted at *;clear hp HM B1 k2 k3;obtain ⟨ans,HANS⟩:∃ans,Hid ((List.range (path.length+1)).any (hitB rooted hs path)=ans):=⟨_,rfl⟩;rw [HANS.out];go_enter Tryz.func158,Tryz.ntmps158
 go_wp2_with (first
  | (go_at_call 192;refine hm.mono ?_;rintro e1 w1 ⟨rfl,rfl⟩)
  | (refine wpList_store_row rfl 258 (.tmp 5) (.tmp 16) rfl w.heap.size Tryz.zeroCells258 rfl rfl 258 Tryz.zeroCells258 HZ.out iZ.out rfl zOne.out ?_))
 go_loopw [6,7,20] (fun _ _ i wr=>∃k:Nat,i=.int .i64 (k:Int)∧k≤path.length+1∧Hid (k≤path.length→Has wr w.heap.size 258 (plv (preA rooted hs path k)))∧Hid ((List.range k).any (hitB rooted hs path)=false)∧Hid (Below w.heap.size w wr))
  (fun _ _ i _=>path.length+1 - (intOf i).toNat)
 case atStart=>exact ⟨0,rfl,Nat.zero_le _,fun _=>H2.out,rfl,B2⟩
 case round =>
  obtain ⟨k,rfl,hk,J1,JN,JB⟩:=hrel;by_cases hlt:k < path.length+1
  · have k2:=(JB.out.cell (p:=⟨g,2,none⟩) hg).trans HK2.out
    have X:=hid (J1.out (by omega))
    clear J1;have hkk:k≤path.length:=by omega
    go_upto_region 7 with (fail)
    go_cut [20,38] from 20 to 71 (fun c t w'=>c=.int .i64 (k:Int)∧t=.bool (startB rooted path k)∧wr=w')
    case first=>as_aux_lemma =>
     by_cases h0:k=0
     · have HT:Hid (startB rooted path k=true):=by show _=_;unfold startB;rw [h0];rfl
       have e0:((k:Int) == 0)=true:=by simp [h0]
       clear h0;go_wp2;go_meet
       case rel=>exact ⟨rfl,by rw [HT.out],rfl⟩
     · have e0:((k:Int) == 0)=false:=by simp [h0]
       obtain ⟨j,hj⟩:∃j,k - 1=j:=⟨_,rfl⟩;have ej:(k:Int) - 1=(j:Int):=by omega
       have ij:=index_str path j (by omega)
       have HT:Hid (startB rooted path k=((at8 path j == 47)&&!rooted)):=by
        show _=_;unfold startB;rw [hj,show (k == 0)=false by simp [h0]];rfl
       have q7:(b8 (at8 path j) == 47)=(at8 path j == 47):=b8_eq _ 47;generalize at8 path j=x at ij HT q7;obtain ⟨bq,hbq⟩:∃bq,(x == 47)=bq:=⟨_,rfl⟩;rw [hbq] at q7 HT;clear h0 hj hbq
       cases bq with
       | false =>
        go_wp2;go_meet
        case rel=>exact ⟨rfl,by rw [HT.out];rfl,rfl⟩
       | true =>
        go_wp2;go_meet
        case rel=>exact ⟨rfl,by rw [HT.out];rfl,rfl⟩
    case rest =>
     obtain ⟨rfl,rfl,rfl⟩:=hcut;obtain ⟨b,hb⟩:∃b,startB rooted path k=b:=⟨_,rfl⟩;rw [hb];go_upto_if 38 with (fail)
     go_cut [20] from 20 to 71 (fun c w'=>c=.int .i64 (k:Int)∧Hid (Has w' w.heap.size 258 (plv (startA b (preA rooted hs path k))))∧Hid (Below w.heap.size w w'))
     case first=>as_aux_lemma =>
      have qz:wr.cell? ⟨w.heap.size,0,none⟩=some (.bool (preA rooted hs path k 0)):=(X.out.at_ 0).trans (plv_get _ 0 (by omega))
      have fz:=X.out.free 0;clear hb
      cases b with
      | true =>
       go_wp2;go_meet
       case rel =>
        refine ⟨rfl,?_,JB.out.setCell (Nat.le_refl _) _⟩;have:=X.out.put 0 (.bool true);rw [plv_set,startTryztrue] at this;exact this
      | false =>
       go_wp2;go_meet
       case rel=>exact ⟨rfl,by rw [startTryzfalse];exact X,JB⟩
     case rest =>
      obtain ⟨rfl,X0,XB0⟩:=hcut;obtain ⟨at_,HAT⟩:∃at_,Hid (atA rooted hs path k=at_):=⟨_,rfl⟩;have HAT2:Hid (skipA hs (startA b (preA rooted hs path k))=at_):=by show _=_;rw [←hb];exact HAT.out
      have CK:=hid (CS.out (startA b (preA rooted hs path k)) wc XB0.out);rw [HAT2.out] at CK;generalize startA b (preA rooted hs path k)=sa at X0 CK;obtain ⟨en,hen⟩:∃en,(k == path.length)=en:=⟨_,rfl⟩;have e7:((k:Int) == (path.length:Int))=en:=by rw [←hen,Bool.eq_iff_iff];simp;omega
      have HEN:=hid hen;clear hb hen HAT2 X JB k2;go_upto_region 11 with (first
       | (refine wpList_load_row rfl 258 _ rfl w.heap.size rfl 258 _ (0,0) _ X0.out Tryz.underlying258 rfl (iPlaces _) ?_)
       | (go_at_call 193;refine CK.out.mono ?_;rintro e1 w1 ⟨rfl,hb1⟩
          have X1:=hid (X0.out.stays hb1);have XB1:=hid (XB0.out.thenG hb1);obtain ⟨Wz,hWz⟩:∃Wz,w1.setRow w.heap.size (plv at_)=Wz:=⟨_,rfl⟩;have X2:Hid (Has Wz w.heap.size 258 (plv at_)):=hWz▸X1.out.row;have XB:Hid (Below w.heap.size w Wz):=hWz▸XB1.out.rowG (Nat.le_refl _) _;clear hb1)
       | (refine wpList_store_row rfl 258 (.tmp 5) (.tmp 42) rfl w.heap.size (plv at_) rfl rfl 258 _ X1.out (iPlaces _) (by rw [plv_size,plv_size]) (plv_one _) ?_))
      have qn:Wz.cell? ⟨w.heap.size,hs.length,none⟩=some (.bool (at_ hs.length)):=(X2.out.at_ _).trans (plv_get _ _ (by omega))
      have k3z:=(XB.out.cell (p:=⟨g,3,none⟩) hg).trans HK3.out;have HHIT:Hid (hitB rooted hs path k=(at_ hs.length&&(en||(at8 path k == 47)))):=by show _=_;unfold hitB endB;rw [HAT.out,HEN.out]
      go_cut [20,62] from 20 to 71 (fun c t w'=>c=.int .i64 (k:Int)∧t=.bool (hitB rooted hs path k)∧Wz=w')
      case first=>as_aux_lemma =>
       generalize at_ hs.length=an at qn HHIT
       cases an with
       | false =>
        go_wp2;go_meet
        case rel=>exact ⟨rfl,by rw [HHIT.out];rfl,rfl⟩
       | true =>
        cases en with
        | true =>
         go_wp2;go_meet
         case rel=>exact ⟨rfl,by rw [HHIT.out];rfl,rfl⟩
        | false =>
         have ij:=index_str path k (by have:=HEN.out;simp at this;omega)
         have q7:(b8 (at8 path k) == 47)=(at8 path k == 47):=b8_eq _ 47;generalize at8 path k=x at *;obtain ⟨bq,hbq⟩:∃bq,(x == 47)=bq:=⟨_,rfl⟩;rw [hbq] at q7 HHIT;clear hbq;go_wp2;go_meet
         case rel=>exact ⟨rfl,by rw [HHIT.out];rfl,rfl⟩
      case rest =>
       obtain ⟨rfl,rfl,rfl⟩:=hcut;have HIN:Hid (hitB rooted hs path k=true→ans=true):=fun h=>by rw [←HANS.out];exact range_any_yes _ _ k (by omega) h
       have HNN:=hid (range_any_succ (hitB rooted hs path) k);obtain ⟨hit,hhit⟩:∃hit,hitB rooted hs path k=hit:=⟨_,rfl⟩;rw [hhit] at HIN HNN;rw [hhit];clear qn k3z HHIT hhit
       cases hit with
       | true =>
        go_wp2;go_ret;exact ⟨ret_bool (HIN.out (by first | rfl | trivial)).symm,XB.out⟩
       | false =>
        have HNO:Hid ((List.range (k+1)).any (hitB rooted hs path)=false):=by show _=_;rw [HNN.out,JN.out];rfl
        clear HIN HNN
        cases en with
        | true =>
         have HE1:Hid (k=path.length):=by have:=HEN.out;show _=_;simpa using this
         go_wp2;exact ⟨⟨k+1,by go_num,by omega,fun h=>by have:=HE1.out;omega,HNO.out,XB.out⟩,by simp [intOf];omega⟩
        | false =>
         have QI:Hid (∀W,(Instr.index 9 (.string (ba path)) (.int .i64 (k:Int))).run Tryz.prog W=.ok (.int .u8 (b8 (at8 path k))) W):=index_str path k (by have:=HEN.out;simp at this;omega)
         have CT:Hid (∀W,Below w.heap.size w W→Calls Tryz.prog 194 #[.pointer (some ⟨g,0,none⟩),.agg (plv at_),.int .u8 (b8 (at8 path k))] W fun e w'=>e=.returned (.agg (plv (stepA hs at_ (at8 path k))))∧Below W.heap.size W w'):=fun W hW=>CP.out at_ (at8 path k) W hW
         have HST:Hid (stepA hs at_ (at8 path k)=preA rooted hs path (k+1)):=by show _=_;rw [←HAT.out];rfl
         generalize at8 path k=x at QI CT HST;generalize stepA hs at_ x=st_ at CT HST;go_wp2;refine wp_region_noPanic ?_;refine wp_region_held_drew (S:=fun _=>True) (by kernel_rfl) (trivial) (fun hS=>?_)
         refine tkH 0 (v:=?_) (by simp only [lkA,lkB];rfl) (by kernel_rfl) (fun _ _ _ h=>h) (by rfl) (by assumption) ?_ ?_
         rotate_left 1
         · intro w hSw
           go_simp
           with_reducible rfl
         simp only [Act.put,siA,siB,siC];refine inI 2 ?_
         iterate 2
          refine stI (v:=?_) (by simp only [lkA,lkB,lkC];rfl) (by kernel_rfl) (fun _ _ _ h=>h) (by rfl) (by assumption) ?_ ?_
          rotate_left 1
          · intro w hSw
            go_simp
            with_reducible rfl
          simp only [Act.put,siA,siB,siC,Nat.reduceAdd]
         refine outI ?_;refine tkH 4 (v:=?_) (by simp only [lkA,lkB,lkC];rfl) (by kernel_rfl) (fun _ _ _ h=>h) (by rfl) (by assumption) ?_ ?_
         rotate_left 1
         · intro w hSw
           have qi:=QI.out w;go_simp
           with_reducible rfl
         simp only [Act.put,siA,siB,siC];refine wpAnyH_ready (rs:=[1]) (by kernel_rfl) (by simp) ?_
         refine AllReadyH.cons (by simp only [lkA,lkB,lkC];rfl) (fun K hK=>?_) AllReadyH.nil
         rw [if_pos (by rfl)]
         refine wp_load_row 258 (.tmp 5) rfl w.heap.size rfl 258 (plv at_) (0,0) _ (X2.out.drawn 1) Tryz.underlying258 rfl (iPlaces _) ?_;refine hK.out _ _ trivial (fun hS=>?_)
         clear hK K hS;simp only [Act.put,siA,siB,siC];refine wpAnyH_ready (rs:=[5]) (by kernel_rfl) (by simp) ?_
         refine AllReadyH.cons (by simp only [lkA,lkB,lkC];rfl) (fun K hK=>?_) (AllReadyH.nil)
         go_simp;refine (CT.out _ XB.out.drew).mono ?_;rintro e9 y9 ⟨rfl,hb9⟩;have Y1:=hid (Has.stays (w:=Wz.drew) (X2.out.drawn 1) hb9);have YB:Hid (Below w.heap.size w y9):=XB.out.drew.thenG hb9;have hz1:=trivial;refine hK.out _ _ hz1 (fun hS=>?_)
         clear hK K hS;refine wpAnyH_ready (rs:=[6]) (by kernel_rfl) (by simp) ?_
         refine AllReadyH.cons (by simp only [lkA,lkB,lkC];rfl) (fun K hK=>?_) AllReadyH.nil
         rw [if_pos (by rfl)]
         refine wp_store_row 258 (.tmp 5) (.tmp 70) rfl w.heap.size (plv st_) rfl rfl 258 _ Y1.out (iPlaces _) (by rw [plv_size,plv_size]) (plv_one _) ?_
         refine hK.out _ _ trivial (fun hS=>?_)
         clear hK K hS;refine wpAnyH_done (by kernel_rfl) ?_ _
         refine NoPanic.normal ?_;go_wp2;exact ⟨⟨k+1,by go_num,by omega,fun _=>HST.out▸Y1.out.row,HNO.out,YB.out.rowG (Nat.le_refl _) _⟩,by simp [intOf];omega⟩
  · have HF:Hid (ans=false):=by have:=JN.out;rw [show k=path.length+1 by omega,HANS.out] at this;exact this
    have hk2:¬((k:Int) < (path.length:Int)+1):=by omega
    clear J1 hlt;go_wp2;go_ret;exact ⟨ret_bool HF.out.symm,JB.out⟩
end Go.Proofs.YtahkcemdbfjilaaGreatDoor.Glob
