/- Several texts in one. Conditions: those said at each. -/
import Derived.Test.YtahkcemdbfjilaaGreatDoorIt28
set_option linter.unusedSimpArgs false
set_option linter.unusedVariables false
set_option maxRecDepth 100000
namespace Go.Proofs.YtahkcemdbfjilaaGreatDoor.Glob
open Go.RowKit Go.Maps
theorem Ar.at_ {B:Nat} {w:World} {v:Value} {l:List By} (h:Ar B w v l) (h0:0 < l.length):∃g c,v=.slice (some ⟨g,0,none⟩) l.length c∧g < w.heap.size∧∀k (hk:k < l.length),w.cell? ⟨g,k,none⟩=some (.string (ba l[k])):=by
 obtain ⟨g,c,h1,_,h3,_,h5⟩:=own_cells h h0;exact ⟨g,c,h1,h3,fun k hk=>h5 k _ (by simp [strV,hk])⟩
theorem ba_app (a b:By):ba a++ba b=ba (a++b):=by
 apply ByteArray.ext;simp [ba]
end Go.Proofs.YtahkcemdbfjilaaGreatDoor.Glob
namespace Go.Proofs.YtahkcemdbfjilaaGreatDoor.Glob
open Go.RowKit Go.Maps
def isOk (g:Except Int (List By)) (l:List By):Bool:=match g with | .ok q=>q == l | .error _=>false
theorem isOk_eq {g:Except Int (List By)} {l:List By} (h:isOk g l=true):g=.ok l:=by
 cases g with
 | error e=>cases h
 | ok q=>simp only [isOk,beq_iff_eq] at h;rw [h]
theorem files_one (w:World) (n t:By):FilesIs (w.alloc (.cells #[.string (ba n),.string (ba t)] 91)) (.slice (some ⟨w.heap.size,0,none⟩) 1 1) [(n,t)] :=
 FilesIs.of_own ⟨rfl,.inr ⟨w.heap.size,1,#[.string (ba n),.string (ba t)],rfl,Nat.zero_le _,heap_alloc_new w _,Nat.le_refl _,by unfold maxLen;omega,rfl,rfl⟩⟩
theorem parse_one (n t name:By) (w:World) (hG:Gd w) (hn:n.length≤100000) (ht:t.length≤100000) (hm:name.length≤100000) :
 Calls Tryz.prog 11 #[.slice (some ⟨w.heap.size,0,none⟩) 1 1,.string (ba name)] (w.alloc (.cells #[.string (ba n),.string (ba t)] 91)) fun e W=>ParseOut w.heap.size [(n,t)] name e W∧Below w.heap.size w W:=by
 have hb:Below w.heap.size w (w.alloc (.cells #[.string (ba n),.string (ba t)] 91)):=(Below.refl _ _).alloc (Nat.le_refl _) _;refine (iparse_any [(n,t)] name _ _ (hG.kept hb) (files_one w n t) (by simp) (fun i hi=>by simp at hi;subst hi;exact hn) (fun i hi=>by simp at hi;subst hi;exact ht) (by omega)).mono fun e W ⟨h1,h2⟩=>⟨?_,hb.thenG h2⟩
 unfold ParseOut at h1 ⊢
 cases hr:readL [(n,t)] 4 [] name [] with
 | error c=>rw [hr] at h1;exact h1
 | ok qs =>
  rw [hr] at h1;obtain ⟨L,a1,a2,a3,a4⟩:=h1;have hs:=hb.size;refine ⟨L,a1,by omega,?_,a4⟩
  obtain ⟨v,k1,gs,k2,k3⟩:=a3;exact ⟨v,k1,gs,own_mono k2 hs,k3⟩
end Go.Proofs.YtahkcemdbfjilaaGreatDoor.Glob
namespace Go.Proofs.YtahkcemdbfjilaaGreatDoor
open Go.RowKit Go.Maps
theorem wpList_append_at {P:Program} {ops:Array Oper} {rest:List Oper} {o:Oper} {a:Act} {w:World} {Q:Exit→Act→World→Prop} (hgd:o.guard=none) (s x:Operand) (t tn:TypeId) (ho:o.op=.call { callee:=.builtin .append,args:=#[s,x],argTypes:=#[t,tn] })
 (u v v':Value) (w':World) (hs:a.eval s=u) (hx:a.eval x=v) (hr:(Builtin.append_ #[t,tn] o.type #[u,v]).run P w=.ok v' w') (h:wpList P ops Q rest (a.put o.dst v') w'):wpList P ops Q (o :: rest) a w :=
 wpList_append_run hgd s x t tn ho ⟨v',w',by rw [hs,hx];exact hr,h⟩
theorem strR_at {B:Nat} {w:World} {v:Value} {xs:List By} (h:StrR B w v xs) (h0:0 < xs.length):∃g c,v=.slice (some ⟨g,0,none⟩) xs.length c∧g < w.heap.size∧∀k (hk:k < xs.length),w.cell? ⟨g,k,none⟩=some (kS xs[k]):=Glob.Ar.at_ (B:=B) h h0
theorem StrR.on {B:Nat} {w w':World} {v:Value} {xs:List By} (h:StrR B w v xs) (hb:Below w.heap.size w w'):StrR B w' v xs:=h.kq (Kq.of_below hb)
theorem RecR.on {B:Nat} {w w':World} {v:Value} {l:Tr} (h:RecR B w v l) (hb:Below w.heap.size w w'):RecR B w' v l:=h.kq (Kq.of_below hb)
theorem app_str {B:Nat} {w:World} {v:Value} {xs:List By} (h:StrR B w v xs) (p:By) (hn:xs.length≤100000) (hB:B≤w.heap.size) :
 ∃A c W2,(Builtin.append_ #[34,34] 34 #[v,.slice (some ⟨w.heap.size,0,none⟩) 1 1]).run Tryz.prog (w.alloc (.cells #[kS p] 9))=.ok (.slice A (xs.length+1) c) W2∧StrR B W2 (.slice A (xs.length+1) c) (xs++[p])∧Below B w W2:=by
 have hb:Below w.heap.size w (w.alloc (.cells #[kS p] 9)):=(Below.refl _ _).alloc (Nat.le_refl _) _;obtain ⟨v',W2,hr,ho,_,hg,hv⟩:=Glob.append_str (B:=B) (w:=w.alloc (.cells #[kS p] 9)) (v:=v) (l:=xs) (s:=p) (g:=w.heap.size) (h.on hb) (Has.fresh _ _ _) hn (by simp;omega) 34
 have ho':StrR B W2 v' (xs++[p]):=ho;obtain ⟨A,c,rfl⟩:=ho'.form;have e:(xs++[p]).length=xs.length+1:=by simp
 rw [e] at hr ho';exact ⟨A,c,W2,hr,ho',((Below.refl _ _).alloc hB _).grown hg (by simp;omega) (fun g hg1=>(World.ownsRow.lt h g hg1).1)⟩
def waysTo (p:By) (k:Nat):List By:=((List.range k).filter fun i=>at8 p i == 47).map fun i=>p.take i
theorem waysTo_yes {p:By} {k:Nat} (h:at8 p k=47):waysTo p (k+1)=waysTo p k++[p.take k]:=by
 unfold waysTo;rw [List.range_succ,List.filter_append,List.map_append];simp [h]
theorem waysTo_no {p:By} {k:Nat} (h:at8 p k≠47):waysTo p (k+1)=waysTo p k:=by
 unfold waysTo;rw [List.range_succ,List.filter_append,List.map_append];simp [h]
theorem waysTo_len (p:By) (k:Nat):(waysTo p k).length≤k:=by
 unfold waysTo;rw [List.length_map];refine Nat.le_trans (List.length_filter_le _ _) ?_;simp
def waysL (p:By):List By:=waysTo p (min p.length 200)++[p]
theorem waysL_len (p:By):(waysL p).length≤201:=by
 unfold waysL;have:=waysTo_len p (min p.length 200);rw [List.length_append,List.length_singleton];omega
def WaysP (w:World) (p:By) (e:Ending) (w':World):Prop:=∃A c,e=.returned (.slice A (waysL p).length c)∧StrR w.heap.size w' (.slice A (waysL p).length c) (waysL p)∧Below w.heap.size w w'
set_option maxHeartbeats 4000000 in
theorem ways_any (p:By) (w:World) (hp:p.length≤140737488355328):Calls Tryz.prog 36 #[kS p] w fun e w'=>WaysP w p e w':=by
 obtain ⟨N,HN⟩:∃N,Hid (min p.length 200=N):=⟨_,rfl⟩;have HW:Hid (waysL p=waysTo p N++[p]):=by show _=_;unfold waysL;rw [HN.out]
 have hs:((ba p).size:Int)=(p.length:Int):=by rw [ba_size]
 have HIX:Hid (∀i,i < p.length→∀w,(Instr.index 9 (kS p) (.int .i64 (i:Int))).run Tryz.prog w=.ok (.int .u8 (b8 (at8 p i))) w):=fun i h w=>by
  have:=index_at (ba p) i (by rw [ba_size];exact h) w
  rw [tl_ba] at this;exact this
 go_enter Tryz.func36,Tryz.ntmps36
 go_wp2;go_loopw [3,4] (fun v3 v4 wr=>∃(k m c:Nat) (A:Option Addr),v4=.int .i64 (k:Int)∧k≤N∧v3=.slice A m c∧Hid ((waysTo p k).length=m)∧Hid (StrR w.heap.size wr (.slice A m c) (waysTo p k))∧Hid (Below w.heap.size w wr))
  (fun _ v4 _=>N - (intOf v4).toNat)
 case atStart=>exact ⟨0,0,0,none,rfl,Nat.zero_le _,rfl,rfl,StrR.nil _ _,Below.refl _ _⟩
 case round =>
  obtain ⟨k,m,c,A,rfl,hk,rfl,HM,J1,J2⟩:=hrel;have hml:m≤k:=by rw [←HM.out];exact waysTo_len p k
  by_cases hlt:k < N
  · have h1:k < p.length:=by have:=HN.out;omega
    have h2:k < 200:=by have:=HN.out;omega
    have hixk:=HIX.out k h1;have w1:IntKind.i64.wrap ((k:Int)+1)=(k:Int)+1:=i64in _ (by omega) (by omega)
    have g1:(k:Int) < (p.length:Int):=by omega
    have g2:(k:Int) < 200:=by omega
    have he:(ba p).extract 0 k=ba (p.take k):=by rw [ba_take,tl_ba]
    by_cases h47:at8 p k=47
    · have HX:Hid (waysTo p (k+1)=waysTo p k++[p.take k]):=waysTo_yes h47
      obtain ⟨A5,c5,W5,hr5,hs5,hb5⟩:=app_str J1.out (p.take k) (by rw [HM.out];omega) J2.out.size
      rw [HM.out] at hr5 hs5;rw [←HX.out] at hs5;have R5:=hid hr5;have S5:=hid hs5;have B5:Hid (Below w.heap.size w W5):=J2.out.trans hb5;have e47:b8 (at8 p k)=47:=by rw [h47];rfl
      rw [e47] at hixk;have HL5:Hid ((waysTo p (k+1)).length=m+1):=by show _=_;rw [HX.out,List.length_append,HM.out];rfl
      clear hr5 hs5 hb5 h47 e47;go_wp2_with (refine wpList_append_at rfl (.tmp 19) (.tmp 23) 34 34 rfl (.slice A m c) (.slice (some ⟨wr.heap.size,0,none⟩) 1 1) _ _ rfl rfl R5.out ?_)
      go_roundw
      case rel=>exact ⟨k+1,m+1,c5,A5,by go_num,by omega,rfl,HL5.out,S5.out,B5.out⟩
      case measure=>simp [intOf];omega
    · have HX:Hid (waysTo p (k+1)=waysTo p k):=waysTo_no h47
      have q47:(b8 (at8 p k) == 47)=false:=by
       rw [beq_eq_false_iff_ne];intro e;apply h47;have:=(at8 p k).toNat_lt;refine UInt8.toNat_inj.1 ?_;unfold b8 at e;show _=47
       omega
      have q47':¬b8 (at8 p k)=47:=by simpa using q47
      clear h47;go_wp2;go_roundw
      case rel=>exact ⟨k+1,m,c,A,by go_num,by omega,rfl,by rw [HX.out];exact HM.out,by rw [HX.out];exact J1.out,J2.out⟩
      case measure=>simp [intOf];omega
  · obtain rfl:k=N:=by omega
    obtain ⟨A5,c5,W5,hr5,hs5,hb5⟩:=app_str J1.out p (by rw [HM.out];have:=HN.out;omega) J2.out.size
    rw [HM.out] at hr5 hs5;rw [←HW.out] at hs5;have R5:=hid hr5;have S5:=hid hs5;have B5:Hid (Below w.heap.size w W5):=J2.out.trans hb5;have HL5:Hid ((waysL p).length=m+1):=by show _=_;rw [HW.out,List.length_append,HM.out];rfl
    have HF:Hid (WaysP w p (.returned (.slice A5 (m+1) c5)) W5):=⟨A5,c5,by rw [HL5.out],by rw [HL5.out];exact S5.out,B5.out⟩
    clear hr5 hs5 hb5;by_cases h1:k < p.length
    · have h2:¬(k:Int) < 200:=by have:=HN.out;omega
      have g1:(k:Int) < (p.length:Int):=by omega
      go_wp2_with (refine wpList_append_at rfl (.tmp 25) (.tmp 27) 34 34 rfl (.slice A m c) (.slice (some ⟨wr.heap.size,0,none⟩) 1 1) _ _ rfl rfl R5.out ?_)
      go_ret;exact HF.out
    · have g1:¬(k:Int) < (p.length:Int):=by omega
      go_wp2_with (refine wpList_append_at rfl (.tmp 25) (.tmp 27) 34 34 rfl (.slice A m c) (.slice (some ⟨wr.heap.size,0,none⟩) 1 1) _ _ rfl rfl R5.out ?_)
      go_ret;exact HF.out
end Go.Proofs.YtahkcemdbfjilaaGreatDoor
namespace Go.Proofs.YtahkcemdbfjilaaGreatDoor
open Go.RowKit Go.Maps
def joinP (l:Tr):By:=l.flatMap (·.1++[32])
theorem joinP_snoc (l:Tr) (x:At):joinP (l++[x])=joinP l++x.1++[32]:=by simp [joinP]
theorem joinP_len {l:Tr} {m:Nat} (h:∀x∈l,x.1.length≤m):(joinP l).length≤l.length*(m+1):=by
 induction l with
 | nil=>simp [joinP]
 | cons x l ih =>
  have e:joinP (x :: l)=(x.1++[32])++joinP l:=by simp [joinP]
  have h1:=h x List.mem_cons_self;have h2:=ih fun y hy=>h y (List.mem_cons_of_mem _ hy)
  have h3:(x.1++[32]++joinP l).length=x.1.length+1+(joinP l).length:=by simp;omega
  rw [e,h3,List.length_cons,Nat.add_mul];omega
theorem flat_get {α β:Type} (f:α→List β) (n:Nat) (hf:∀a,(f a).length=n):∀(l:List α) (i:Nat) (hi:i < l.length) (j:Nat),j < n→(l.flatMap f)[i*n+j]? = (f l[i])[j]?
 | x :: l,0,_,j,hj=>by
  rw [List.flatMap_cons,Nat.zero_mul,Nat.zero_add,List.getElem?_append_left (by rw [hf];exact hj)];rfl
 | x :: l,i+1,hi,j,hj=>by
  rw [List.flatMap_cons,List.getElem?_append_right (by rw [hf,Nat.add_mul];omega),hf,show (i+1)*n+j - n=i*n+j by rw [Nat.add_mul];omega]
  exact flat_get f n hf l i (by simpa using hi) j hj
theorem RecP.at_ {B:Nat} {w:World} {v:Value} {ps:List (At × Value)} (h:RecP B w v ps) (h0:0 < ps.length):∃g c,v=.slice (some ⟨g,0,none⟩) ps.length c∧B≤g∧g < w.heap.size ∧
 ∀(k:Nat) (hk:k < ps.length) (j:Nat) (u:Value),j < 27→(recN (ps[k]).1.1 (ps[k]).1.2 (ps[k]).2).toList[j]? = some u→w.cell? ⟨g,k*27+j,none⟩=some u:=by
 rcases h.own.2 with ⟨_,h3⟩ | ⟨g,c,cur,h3,hB,h4,h5⟩
 · omega
 · refine ⟨g,c,h3,hB,(World.ownsRow.lt h.own g (by rw [h3];rfl)).2,fun k hk j u hj hu=>?_⟩
   have:=World.ownsRow.cells (g:=g) h.own (by rw [h3];rfl) (k*27+j) u (by
    unfold pcells;rw [flat_get (fun y:At × Value=>(recN y.1.1 y.1.2 y.2).toList) 27 (fun y=>rfl) ps k hk j hj];exact hu)
   rwa [add_at,Nat.zero_add] at this
set_option maxHeartbeats 4000000 in
theorem paths_any {B:Nat} {w:World} {v:Value} {l:Tr} (h:RecR B w v l) (hn:l.length≤100000) (hq:∀x∈l,x.1.length≤4000) :
 Calls Tryz.prog 30 #[v] w fun e w'=>e=.returned (kS (joinP l))∧w=w':=by
 obtain ⟨ps,hps,hP⟩:=h;have hlp:ps.length=l.length:=by rw [←hps,List.length_map]
 have hv:=hP.own;have HP:=hid hP;have HPS:=hid hps;have HQ:=hid hq;obtain ⟨A,c,rfl⟩:∃A c,v=.slice A ps.length c:=by
  rcases hv.2 with ⟨h1,h2⟩ | ⟨g,c,cur,h1,_⟩
  · exact ⟨none,0,by rw [h1,h2]⟩
  · exact ⟨some ⟨g,0,none⟩,c,h1⟩
 obtain ⟨n,HN⟩:∃n,Hid (ps.length=n):=⟨_,rfl⟩;rw [HN.out] at HP ⊢;rw [←hlp,HN.out] at hn;clear hP hps hq hv hlp;go_enter Tryz.func30,Tryz.ntmps30
 go_wp2;go_loopw [3,4] (fun s0 i wr=>∃(k:Nat),i=.int .i64 (k:Int)∧s0=.string (ba (joinP (l.take k)))∧k≤n∧w=wr)
  (fun _ i _=>n - (intOf i).toNat)
 case atStart=>exact ⟨0,rfl,rfl,Nat.zero_le _,rfl⟩
 case round =>
  obtain ⟨k,rfl,rfl,hk,rfl⟩:=hrel;by_cases hlt:k < n
  · have hkp:k < ps.length:=by rw [HN.out];exact hlt
    have hkl:k < l.length:=by rw [←HPS.out,List.length_map];exact hkp
    obtain ⟨g,cap,hve,_,hg,hcell⟩:=HP.out.at_ (by omega)
    rw [HN.out] at hve;simp only [Value.slice.injEq,true_and] at hve;obtain ⟨rfl,rfl⟩:=hve;have c0:=hcell k hkp 0 _ (by omega) rfl
    have e0:(ps[k]).1=l[k]:=by
     have:=HPS.out;subst this;simp
    rw [e0,Nat.add_zero] at c0;have hkn:(k:Int) < (n:Int):=by omega
    have hk0:(0:Int)≤(k:Int):=by omega
    have hjl:(joinP (l.take k)).length≤500000000:=by
     have:=joinP_len (l:=l.take k) (m:=4000) (fun s hs=>HQ.out s (List.mem_of_mem_take hs))
     rw [List.length_take,Nat.min_eq_left (by omega)] at this
     have:k*(4000+1)≤100000*4001:=Nat.mul_le_mul_right _ (by omega)
     omega
    have hsl:(l[k]).1.length≤4000:=HQ.out _ (List.getElem_mem hkl);have hts:Hid (joinP (l.take (k+1))=joinP (l.take k)++((l[k]).1++[32])):=by show _=_;rw [List.take_succ_eq_append_getElem hkl,joinP_snoc,List.append_assoc]
    generalize (l[k]).1=s at c0 hsl hts;generalize joinP (l.take k)=u at hjl hts;have zu:=ba_size u;have zs:=ba_size s;have a1:ba u++ba s=ba (u++s):=Glob.ba_app u s;have a2:ba (u++s)++(⟨#[32]⟩:ByteArray)=ba (u++s++[32]):=Glob.ba_app (u++s) [32];have z2:(ba (u++s)).size=u.length+s.length:=by rw [ba_size,List.length_append]
    have w1:IntKind.i64.wrap ((k:Int)+1)=(k:Int)+1:=i64in _ (by omega) (by omega)
    clear hcell hg e0;go_wp2;go_roundw
    case rel=>exact ⟨k+1,by go_num,by rw [hts.out],by omega,trivial⟩
    case measure=>simp [intOf];omega
  · obtain rfl:k=n:=by omega
    have HE:Hid (l.take k=l):=by show _=_;rw [List.take_of_length_le (by rw [←HPS.out,List.length_map,HN.out];omega)]
    rw [HE.out];go_wp2;go_ret;exact ⟨rfl,rfl⟩
end Go.Proofs.YtahkcemdbfjilaaGreatDoor
namespace Go.Proofs.YtahkcemdbfjilaaGreatDoor
open Go.RowKit Go.Maps
def NextP (w:World) (room:Nat) (r:Int × Tr) (e:Ending) (w':World):Prop :=
 (r.1=0∧∃o,e=.returned (.tuple #[.pointer (some ⟨o,0,none⟩),.int .i64 0])∧TreeF w.heap.size w' o r.2 room∧Below w.heap.size w w')∨(r.1≠0∧e=.returned (.tuple #[.pointer none,.int .i64 r.1])∧Below w.heap.size w w')
theorem NextP.bad {w w':World} {room:Nat} {r:Int × Tr} {c:Int} (hr:r.1=c) (hc:c≠0) (hb:Below w.heap.size w w'):NextP w room r (.returned (.tuple #[.pointer none,.int .i64 c])) w':=by
 subst hr;exact .inr ⟨hc,rfl,hb⟩
def Short (L:Tr):Prop:=∀x∈L,x.1.length≤4000
theorem WFT.short {room:Nat} {L:Tr} (h:WFT room L):Short L:=fun x hx=>by
 obtain ⟨p,n⟩:=x;have:=(may_parts (h.may p (by rw [mem_look h.srt hx];rfl))).1
 show p.length≤4000;omega
theorem ba_cut (s:By) (k:Nat):(ba s).extract k s.length=ba (s.drop k):=by
 have:=ba_drop (ba s) k;rw [ba_size,tl_ba] at this;exact this
end Go.Proofs.YtahkcemdbfjilaaGreatDoor
