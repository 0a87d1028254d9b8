/- Several texts in one. Conditions: those said at each. -/
import Derived.Test.YtahkcemdbfjilaaGreatDoorIt00
import Derived.OwnWalk
import Derived.Test.YtahkcemdbfjilaaGreatDoorIt19
set_option linter.unusedSimpArgs false
set_option linter.unusedVariables false
set_option maxRecDepth 100000
namespace Go.Proofs.YtahkcemdbfjilaaGreatDoor.Glob
open Go.RowKit
theorem wpList_append_run {P:Program} {ops:Array Oper} {rest:List Oper} {o:Oper} {a:Act} {w:World} {Q:Exit→Act→World→Prop} (hgd:o.guard=none) (s x:Operand) (t tn:TypeId)
 (ho:o.op=.call { callee:=.builtin .append,args:=#[s,x],argTypes:=#[t,tn] })
 (h:∃v' w',(Builtin.append_ #[t,tn] o.type #[a.eval s,a.eval x]).run P w=.ok v' w'∧wpList P ops Q rest (a.put o.dst v') w'):wpList P ops Q (o :: rest) a w :=
 wpList_plain hgd fun _ hK=>by
  obtain ⟨v',w',hr,h⟩:=h;unfold Oper.wp execOp;simp only [ho,resolve,invoke,builtin,Sem.run_bind,Sem.run_pure,Result.andThen_ok,List.map_toArray,List.map_cons,List.map_nil,hr];exact hK _ _ h
theorem info_parts {t:TypeId} {z:Option Value} {a b:Nat} (h:(Tryz.prog.info? t).map (fun i=>(i.zero,i.size,i.bytes))=some (z,a,b)):∃i,Tryz.prog.info? t=some i∧i.zero=z∧i.size=a∧i.bytes=b:=by
 cases hq:Tryz.prog.info? t with
 | none=>simp [hq] at h
 | some i=>simp [hq] at h;exact ⟨i,rfl,h.1,h.2.1,h.2.2⟩
theorem infoSpan:(Tryz.prog.info? 281).map (fun i=>(i.zero,i.size,i.bytes))=some (some (.agg #[.int .u8 0,.int .u8 0]),2,2):=by kernel_rfl
theorem own_base {B:Nat} {w:World} {e:TypeId} {s n:Nat} {v:Value} {xs:List Value} (h:w.ownsRow B e s v n xs):∀k,v.ownBlock=some k→B≤k:=by
 intro k hk;rcases h.2 with ⟨rfl,_⟩ | ⟨g,c,cur,rfl,hB,_⟩
 · cases hk
 · obtain rfl:=Option.some.inj hk;exact hB
theorem scells_append (rs:List Rg) (r:Rg):scells (rs++[r])=scells rs++[.int .u8 (b8 r.1),.int .u8 (b8 r.2)]:=by simp [scells]
theorem _root_.Go.RowKit.Below.thenG' {B:Nat} {a w w':World} (h:Below B a w) (hB:B≤w.heap.size) (k:Below w.heap.size w w'):Below B a w':=h.trans (k.mono hB)
theorem iElem:(Tryz.prog.info? 249).map (·.size)=some 2:=by kernel_rfl
theorem load_elem {w:World} {g:Nat} {a b:Value} (k:Has w g 249 #[a,b]):(loadVar 249 ⟨g,0,none⟩).run Tryz.prog w=.ok (.agg #[a,b]) w :=
 run_loadVar_row (P:=Tryz.prog) w g 249 249 #[a,b] (0,0) _ k Tryz.underlying249 rfl iElem
theorem Gx.put {a w:World} {g:Nat} {cs:Array Value} (h:Gx a w) (k:Has w g 249 cs) (i:Nat) (v:Value):Gx a (w.setCell ⟨g,i,none⟩ v):=by
 refine h.trans ⟨by simp,fun j ds t q ho hn=>?_⟩
 by_cases hj:j=g
 · subst hj
   have e2:=Option.some.inj (ho.symm.trans k);simp only [Obj.cells.injEq] at e2;rw [e2.2.1] at hn;exact absurd hn (by decide)
 · exact (Below.heap_setCell w ⟨g,i,none⟩ v j hj).trans ho
theorem append_sp (w:World) (B:Nat) (v:Value) (rs:List Rg) (h:Sps B w v rs) (r:Rg) (a:Addr) (h0:w.cell? (a.add 0)=some (.int .u8 (b8 r.1))) (h1:w.cell? (a.add 1)=some (.int .u8 (b8 r.2))) (hn:rs.length≤1000) (hB:B≤w.heap.size) (ty:TypeId) :
 ∃v' w',(Builtin.append_ #[282,282] ty #[v,.slice (some a) 1 1]).run Tryz.prog w=.ok v' w'∧Sps B w' v' (rs++[r])∧w.grownBy w' v.ownBlock:=by
 obtain ⟨i0,hi,hz0,hz1,hz2⟩:=info_parts infoSpan;obtain ⟨v',w',hr,ho',hg,_,_⟩:=run_append_own_at (P:=Tryz.prog) w B 282 ty 281 i0 (.agg #[.int .u8 0,.int .u8 0]) 2 2 Tryz.underlying282 hi hz0 hz1 hz2 rfl (by omega) v rs.length (scells rs) h a 1 1 [.int .u8 (b8 r.1),.int .u8 (b8 r.2)] rfl (fun j u' hj=>by
  match j,hj with
  | 0,hj=>obtain rfl:=Option.some.inj hj;exact h0
  | 1,hj=>obtain rfl:=Option.some.inj hj;exact h1
  | j+2,hj=>simp at hj) (fun x hx=>by simp only [List.mem_cons,List.not_mem_nil,or_false] at hx;rcases hx with rfl | rfl<;>rfl) (by unfold maxLen;omega) (by omega) hB
 refine ⟨v',w',hr,?_,hg⟩;unfold Sps;rw [scells_append,List.length_append];exact ho'
def ElemIs (fold:Bool) (x:Option (El × By)) (e:Ending) (w':World):Prop :=
 match x with
 | none=>∃f m r,e=.returned (.tuple #[.agg #[f,.bool m],.string (ba r),.bool false])∧(f=.nilFunc∨∃h,IsFn w' f h)
 | some (el,r)=>∃f,e=.returned (.tuple #[.agg #[f,.bool el.many],.string (ba r),.bool true])∧IsFn w' f (holdsE fold el)
def clsL (s:By):Option (El × By):=match cls (cutP [33] s) [] with
 | none=>none
 | some (rs,r)=>some (.set (pre [33] s) rs,r)
set_option maxHeartbeats 2000000 in
theorem class_any (s:By) (fold:Bool) (w:World) (hs:s.length≤128) :
 Calls Tryz.prog 219 #[.string (ba s),.bool fold] w fun e w'=>ElemIs fold (clsL s) e w'∧Below w.heap.size w w':=by
 obtain ⟨t0,ht0⟩:∃t,t=cutP [33] s:=⟨_,rfl⟩;obtain ⟨neg,hneg⟩:∃b,pre [33] s=b:=⟨_,rfl⟩;have hl0:t0.length≤128:=by have:=cutP_len [33] s;rw [ht0];omega
 have hc:∀W,Calls Tryz.prog 47 #[.string (ba s),.string ⟨#[33]⟩] W fun e w'=>e=.returned (.tuple #[.string (ba t0),.bool neg])∧W=w':=by
  intro W;have:=cut_any s [33] W;rw [←ht0,hneg] at this;exact this
 have HC:Hid (clsL s=match cls t0 [] with | none=>none | some (rs,r)=>some (.set neg rs,r)):=by subst ht0;subst hneg;rfl
 generalize clsL s=goal at HC;clear ht0 hneg hs;obtain ⟨W1,hW1⟩:∃W1,w.alloc (.cells #[.nilFunc,.bool false] 249)=W1:=⟨_,rfl⟩;have H1:Hid (Has W1 w.heap.size 249 #[.nilFunc,.bool false]):=hW1▸Has.fresh _ _ _;have B1:Hid (Below w.heap.size w W1):=hW1▸(Below.refl _ _).alloc (Nat.le_refl _) _;have S1:Hid (W1.heap.size=w.heap.size+1):=by show _=_;rw [←hW1];simp
 go_enter Tryz.func219,Tryz.ntmps219
 go_wp2_with (go_at_call 47;refine (hc _).mono ?_;rintro e1 w1 ⟨rfl,rfl⟩)
 have S1':=S1.out;go_loopw [0,8] (fun s8 l wr=>∃(t:By) (rs:List Rg) (A:Option Addr) (cap:Nat),s8=.string (ba t)∧l=.slice A rs.length cap∧t.length≤128∧rs.length+t.length≤128∧Hid (cls t0 []=cls t rs)∧Hid (Sps (w.heap.size+1) wr (.slice A rs.length cap) rs)∧Hid (Below (w.heap.size+1) W1 wr))
  (fun s8 _ _=>match s8 with | .string x=>x.size | _=>0)
 case atStart=>exact ⟨t0,[],none,0,rfl,rfl,hl0,by simp;exact hl0,rfl,World.ownsRow_nil _ _ _ _,S1'▸Below.refl _ _⟩
 case round =>
  obtain ⟨t,rs,A,cap,rfl,rfl,hl,hrl,HT,HS,HB⟩:=hrel;obtain ⟨b,hb⟩:∃b,pre [93] t=b:=⟨_,rfl⟩;have hp:∀W,Calls Tryz.prog 75 #[.string (ba t),.string ⟨#[93]⟩] W fun e w'=>e=.returned (.bool b)∧W=w':=by
   intro W;have:=pre_any t [93] W;rw [hb] at this;exact this
  have HE:Hid (cls t0 []=if b then (if rs.length=0 then none else some (rs,t.drop 1)) else match spanL t with | none=>none | some (r,u)=>cls u (rs++[r])):=by
   show _=_;rw [HT.out,cls_eq,hb];rfl
  have HW:Hid (w.heap.size+1≤wr.heap.size):=by have:=HB.out.size;rw [S1'] at this;exact this
  have HR:Hid (Has wr w.heap.size 249 #[.nilFunc,.bool false]):=H1.out.kept HB.out (Nat.lt_succ_self _);clear HT
  cases b with
  | false =>
   have CS:=hid (span_any t);clear hb;go_wp2_with (go_at_call 75;refine (hp _).mono ?_;rintro e1 w1 ⟨rfl,rfl⟩)
   refine (CS.out _).mono ?_;rintro e2 w2 ⟨⟨lo,hi,r,ok,rfl,hsp⟩,hb2⟩
   cases ok with
   | false =>
    have HE2:Hid (goal=none):=by show _=_;rw [HC.out,HE.out,hsp];rfl
    obtain ⟨W3,hW3⟩:∃W3,w2.alloc (.cells #[.int .u8 (b8 lo),.int .u8 (b8 hi)] 281)=W3:=⟨_,rfl⟩;have B3:Below w2.heap.size w2 W3:=hW3▸(Below.refl _ _).alloc (Nat.le_refl _) _;have H2:=hid ((HR.out.stays hb2).stays B3);have k0:=H2.out.at_ 0;have k1:=H2.out.at_ 1;have f0:=H2.out.free 0;have f1:=H2.out.free 1;have B2:Hid (Below w.heap.size w W3):=B1.out.trans ((HB.out.thenG' HW.out (hb2.thenG B3)).mono (by omega))
    clear hsp HE HC hb2 B3;go_wp2;refine bodyPost_ret (results_ctt rfl _ _ _ w.heap.size _ _ _ (load_elem ((H2.out.put 0 _).put 1 _)) rfl rfl rfl) rfl ⟨?_,(B2.out.setCell (Nat.le_refl _) _).setCell (Nat.le_refl _) _⟩;rw [HE2.out];exact ⟨_,_,[],rfl,.inl rfl⟩
   | true =>
    have hrl2:r.length < t.length:=spanL_len (by rw [hsp];rfl)
    have HE2:Hid (cls t0 []=cls r (rs++[(lo,hi)])):=by show _=_;rw [HE.out,hsp];rfl
    clear hsp HE;obtain ⟨W3,hW3⟩:∃W3,w2.alloc (.cells #[.int .u8 (b8 lo),.int .u8 (b8 hi)] 281)=W3:=⟨_,rfl⟩;obtain ⟨W4,hW4⟩:∃W4,W3.alloc (.cells #[.int .u8 (b8 lo),.int .u8 (b8 hi)] 281)=W4:=⟨_,rfl⟩;have B3:Below w2.heap.size w2 W3:=hW3▸(Below.refl _ _).alloc (Nat.le_refl _) _;have B4:Below W3.heap.size W3 W4:=hW4▸(Below.refl _ _).alloc (Nat.le_refl _) _;have B24:=(hb2.thenG B3).thenG B4;have hf:Has W4 W3.heap.size 281 #[.int .u8 (b8 lo),.int .u8 (b8 hi)]:=hW4▸Has.fresh _ _ _;have hs3:W3.heap.size=w2.heap.size+1:=by rw [←hW3];simp
    obtain ⟨v',w',har,hsp',hgr⟩:=append_sp W4 (w.heap.size+1) _ rs (HS.out.stays B24) (lo,hi) ⟨W3.heap.size,0,none⟩ (hf.at_ 0) (hf.at_ 1) (by omega) (Nat.le_trans HW.out B24.size) 282
    rw [hs3] at har;have HAR:=hid har;have HSP:=hid hsp';have HBL:Hid (Below (w.heap.size+1) W1 w'):=Below.grown (HB.out.trans (B24.mono HW.out)) hgr (Nat.le_trans HW.out B24.size) (own_base (HS.out.stays B24));have hf3:Has W3 w2.heap.size 281 #[.int .u8 (b8 lo),.int .u8 (b8 hi)]:=hW3▸Has.fresh _ _ _;have k0:=hf3.at_ 0;have k1:=hf3.at_ 1;clear har hsp' hgr hf B3 B4 B24 hb2 hf3;go_wp2_with (at_builtin;refine wpList_append_run rfl (.tmp 30) (.tmp 32) 282 282 rfl ⟨v',w',HAR.out,?_⟩)
    obtain ⟨A',c',hv'⟩:∃A c,v'=.slice A (rs++[(lo,hi)]).length c:=by
     rcases HSP.out.form with ⟨h0,h⟩ | ⟨g,cap,h,_⟩
     · exact ⟨none,0,by rw [h,h0];rfl⟩
     · exact ⟨_,_,h⟩
    subst hv';refine ⟨⟨r,rs++[(lo,hi)],A',c',rfl,rfl,by omega,by simp;omega,HE2.out,HSP.out,HBL.out⟩,?_⟩
    simp [ba_size];omega
  | true =>
   have HE2:Hid (goal=if rs.length=0 then none else some (.set neg rs,t.drop 1)):=by
    show _=_;rw [HC.out,HE.out,if_pos rfl];by_cases h0:rs.length=0
    · rw [if_pos h0,if_pos h0]
    · rw [if_neg h0,if_neg h0]
   have hpl:1≤t.length:=by have:=pre_len hb;simpa using this
   have CW:=hid (within_any (w.heap.size+1) _ rs fold wr HS.out (by omega))
   have z:=ba_size t;have hpi:(1:Int)≤(t.length:Int):=by omega
   have zd:=ba_drop t 1;generalize t.drop 1=u at zd HE2;clear hb HE HC HS hrl
   cases neg with
   | false =>
    go_wp2_with (first
     | (go_at_call 75;refine (hp _).mono ?_;rintro e1 w1 ⟨rfl,rfl⟩)
     | (go_at_call 221;refine CW.out.mono ?_;rintro e2 w2 ⟨⟨f,rfl,hf⟩,hb2⟩
        have HF:=hid hf;obtain ⟨k2,lb2,rfl⟩:=hf.form;have H2:=hid (HR.out.stays hb2);have B2:Hid (Below w.heap.size w w2):=B1.out.trans ((HB.out.thenG' HW.out hb2).mono (by omega))
        clear hf hb2))
    have CI:Hid (∀W,Gx w2 W→Calls Tryz.prog 218 #[.func (.func k2) #[] lb2] W fun e w'=>(∃f',e=.returned f'∧IsFn w' f' (holdsE fold (.set false rs)))∧Below W.heap.size W w'):=fun W hW=>inPart_any _ _ W (HF.out.gx hW)
    have z0:Gx w2 w2.drew:=Gx.of_below (Below.refl _ _).drew;have HD:=hid (H2.out.drawn 1);have BD:Hid (Below w.heap.size w w2.drew):=B2.out.drew;refine wp_region_noPanic ?_;refine wp_region_held_drew (S:=Gx w2) (by kernel_rfl) (z0) (fun hS=>?_)
    refine tkH 0 (v:=?_) (by simp only [lkA,lkB];rfl) (by kernel_rfl) (fun _ _ _ h=>h) (by rfl) (by assumption) ?_ ?_
    rotate_left 1
    · intro w hSw
      go_simp
      with_reducible rfl
    simp only [Act.put,siA,siB,siC];refine inI 3 ?_
    iterate 5
     refine stI (v:=?_) (by simp only [lkA,lkB,lkC];rfl) (by kernel_rfl) (fun _ _ _ h=>h) (by rfl) (by assumption) ?_ ?_
     rotate_left 1
     · intro w hSw
       go_simp
       with_reducible rfl
     simp only [Act.put,siA,siB,siC,Nat.reduceAdd]
    refine outI ?_;refine wpAnyH_ready (rs:=[1]) (by kernel_rfl) (by simp) ?_
    refine AllReadyH.cons (by simp only [lkA,lkB,lkC];rfl) (fun K hK=>?_) (AllReadyH.nil)
    go_simp;refine (CI.out _ z0).mono ?_;rintro e4 y4 ⟨⟨f4,rfl,hf4⟩,hb4⟩;have HF4:=hid hf4;obtain ⟨k4,lb4,rfl⟩:=hf4.form;have H4:=hid (Has.stays (w:=w2.drew) HD.out hb4);have B4:Hid (Below w.heap.size w y4):=BD.out.thenG hb4;have hz1:=Gx.then_below z0 hb4;refine hK.out _ _ hz1 (fun hS=>?_)
    clear hK K hS;refine tkH 2 (v:=?_) (by simp only [lkA,lkB,lkC];rfl) (by kernel_rfl) (fun _ _ _ h=>h) (by rfl) (by assumption) ?_ ?_
    rotate_left 1
    · intro w hSw
      go_simp
      with_reducible rfl
    simp only [Act.put,siA,siB,siC];refine wpAnyH_ready (rs:=[8]) (by kernel_rfl) (by simp) ?_
    refine AllReadyH.cons (by simp only [lkA,lkB,lkC];rfl) (fun K hK=>?_) (AllReadyH.nil)
    have k0:=H4.out.at_ 0;have k1:=H4.out.at_ 1;have f0:=H4.out.free 0;have f1:=H4.out.free 1;go_simp;have hz9:=Gx.put (Gx.put hz1 H4.out 0 (.func (.func k4) #[] lb4)) (H4.out.put 0 (.func (.func k4) #[] lb4)) 1 (.bool false);refine hK.out _ _ hz9 (fun hS=>?_)
    clear hK K hS k0 k1 f0 f1;refine inI 9 ?_
    iterate 2
     refine stI (v:=?_) (by simp only [lkA,lkB,lkC];rfl) (by kernel_rfl) (fun _ _ _ h=>h) (by rfl) (by assumption) ?_ ?_
     rotate_left 1
     · intro w hSw
       go_simp
       with_reducible rfl
     simp only [Act.put,siA,siB,siC,Nat.reduceAdd]
    refine outI ?_;refine wpAnyH_done (by kernel_rfl) ?_ _
    refine NoPanic.normal ?_;go_wp2;refine bodyPost_ret (results_ctt rfl _ _ _ w.heap.size _ _ _ (load_elem ((H4.out.put 0 _).put 1 _)) rfl rfl rfl) rfl ⟨?_,(B4.out.setCell (Nat.le_refl _) _).setCell (Nat.le_refl _) _⟩;rw [HE2.out];by_cases h0:rs.length=0
    · rw [if_pos h0]
      exact ⟨_,false,u,by simp [h0],.inr ⟨_,HF4.out.gx (Gx.put (Gx.put (Gx.refl _) H4.out 0 _) (H4.out.put 0 _) 1 _)⟩⟩
    · rw [if_neg h0]
      exact ⟨_,by simp [h0,El.many,Nat.pos_of_ne_zero],HF4.out.gx (Gx.put (Gx.put (Gx.refl _) H4.out 0 _) (H4.out.put 0 _) 1 _)⟩
   | true =>
    go_wp2_with (first
     | (go_at_call 75;refine (hp _).mono ?_;rintro e1 w1 ⟨rfl,rfl⟩)
     | (go_at_call 221;refine CW.out.mono ?_;rintro e2 w2 ⟨⟨f,rfl,hf⟩,hb2⟩
        have HF:=hid hf;obtain ⟨k2,lb2,rfl⟩:=hf.form;have H2:=hid (HR.out.stays hb2);have B2:Hid (Below w.heap.size w w2):=B1.out.trans ((HB.out.thenG' HW.out hb2).mono (by omega))
        clear hf hb2)
     | (go_at_call 255;refine (not_any _ _ w2 HF.out).mono ?_;rintro e3 w3 ⟨⟨f3,rfl,hf3⟩,hb3⟩
        have HF3:=hid hf3;obtain ⟨k3,lb3,rfl⟩:=hf3.form;have H3:=hid (H2.out.stays hb3);have B3:Hid (Below w.heap.size w w3):=B2.out.thenG hb3;clear hf3 hb3))
    have CI:Hid (∀W,Gx w3 W→Calls Tryz.prog 218 #[.func (.func k3) #[] lb3] W fun e w'=>(∃f',e=.returned f'∧IsFn w' f' (holdsE fold (.set true rs)))∧Below W.heap.size W w'):=fun W hW=>inPart_any _ _ W (HF3.out.gx hW)
    have z0:Gx w3 w3.drew:=Gx.of_below (Below.refl _ _).drew;have HD:=hid (H3.out.drawn 1);have BD:Hid (Below w.heap.size w w3.drew):=B3.out.drew;refine wp_region_noPanic ?_;refine wp_region_held_drew (S:=Gx w3) (by kernel_rfl) (z0) (fun hS=>?_)
    refine tkH 0 (v:=?_) (by simp only [lkA,lkB];rfl) (by kernel_rfl) (fun _ _ _ h=>h) (by rfl) (by assumption) ?_ ?_
    rotate_left 1
    · intro w hSw
      go_simp
      with_reducible rfl
    simp only [Act.put,siA,siB,siC];refine inI 3 ?_
    iterate 5
     refine stI (v:=?_) (by simp only [lkA,lkB,lkC];rfl) (by kernel_rfl) (fun _ _ _ h=>h) (by rfl) (by assumption) ?_ ?_
     rotate_left 1
     · intro w hSw
       go_simp
       with_reducible rfl
     simp only [Act.put,siA,siB,siC,Nat.reduceAdd]
    refine outI ?_;refine wpAnyH_ready (rs:=[1]) (by kernel_rfl) (by simp) ?_
    refine AllReadyH.cons (by simp only [lkA,lkB,lkC];rfl) (fun K hK=>?_) (AllReadyH.nil)
    go_simp;refine (CI.out _ z0).mono ?_;rintro e4 y4 ⟨⟨f4,rfl,hf4⟩,hb4⟩;have HF4:=hid hf4;obtain ⟨k4,lb4,rfl⟩:=hf4.form;have H4:=hid (Has.stays (w:=w3.drew) HD.out hb4);have B4:Hid (Below w.heap.size w y4):=BD.out.thenG hb4;have hz1:=Gx.then_below z0 hb4;refine hK.out _ _ hz1 (fun hS=>?_)
    clear hK K hS;refine tkH 2 (v:=?_) (by simp only [lkA,lkB,lkC];rfl) (by kernel_rfl) (fun _ _ _ h=>h) (by rfl) (by assumption) ?_ ?_
    rotate_left 1
    · intro w hSw
      go_simp
      with_reducible rfl
    simp only [Act.put,siA,siB,siC];refine wpAnyH_ready (rs:=[8]) (by kernel_rfl) (by simp) ?_
    refine AllReadyH.cons (by simp only [lkA,lkB,lkC];rfl) (fun K hK=>?_) (AllReadyH.nil)
    have k0:=H4.out.at_ 0;have k1:=H4.out.at_ 1;have f0:=H4.out.free 0;have f1:=H4.out.free 1;go_simp;have hz9:=Gx.put (Gx.put hz1 H4.out 0 (.func (.func k4) #[] lb4)) (H4.out.put 0 (.func (.func k4) #[] lb4)) 1 (.bool false);refine hK.out _ _ hz9 (fun hS=>?_)
    clear hK K hS k0 k1 f0 f1;refine inI 9 ?_
    iterate 2
     refine stI (v:=?_) (by simp only [lkA,lkB,lkC];rfl) (by kernel_rfl) (fun _ _ _ h=>h) (by rfl) (by assumption) ?_ ?_
     rotate_left 1
     · intro w hSw
       go_simp
       with_reducible rfl
     simp only [Act.put,siA,siB,siC,Nat.reduceAdd]
    refine outI ?_;refine wpAnyH_done (by kernel_rfl) ?_ _
    refine NoPanic.normal ?_;go_wp2;refine bodyPost_ret (results_ctt rfl _ _ _ w.heap.size _ _ _ (load_elem ((H4.out.put 0 _).put 1 _)) rfl rfl rfl) rfl ⟨?_,(B4.out.setCell (Nat.le_refl _) _).setCell (Nat.le_refl _) _⟩;rw [HE2.out];by_cases h0:rs.length=0
    · rw [if_pos h0]
      exact ⟨_,false,u,by simp [h0],.inr ⟨_,HF4.out.gx (Gx.put (Gx.put (Gx.refl _) H4.out 0 _) (H4.out.put 0 _) 1 _)⟩⟩
    · rw [if_neg h0]
      exact ⟨_,by simp [h0,El.many,Nat.pos_of_ne_zero],HF4.out.gx (Gx.put (Gx.put (Gx.refl _) H4.out 0 _) (H4.out.put 0 _) 1 _)⟩
end Go.Proofs.YtahkcemdbfjilaaGreatDoor.Glob
