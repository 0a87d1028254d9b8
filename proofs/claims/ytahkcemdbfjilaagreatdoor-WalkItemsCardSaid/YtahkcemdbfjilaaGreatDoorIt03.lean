/- Several texts in one. Conditions: those said at each. -/
import Derived.Test.YtahkcemdbfjilaaGreatDoorIt02
set_option linter.unusedSimpArgs false
set_option linter.unusedVariables false
set_option maxRecDepth 100000
namespace Go.Proofs.YtahkcemdbfjilaaGreatDoor
open Go.RowKit
theorem split_last (l:List UInt8):pieces l=[l]∨∃a b,l=a++47 :: b∧pieces l=pieces a++[b]:=by
 induction l with
 | nil=>exact .inl rfl
 | cons c l ih =>
  by_cases hc:c=47
  · subst hc
    rcases ih with h | ⟨a,b,h1,h2⟩
    · exact .inr ⟨[],l,rfl,by rw [show pieces (47 :: l)=[] :: pieces l by rw [pieces,if_pos rfl],h];rfl⟩
    · exact .inr ⟨47 :: a,b,by rw [h1];rfl,by rw [pieces,if_pos rfl,h2,pieces,if_pos rfl];rfl⟩
  · rcases ih with h | ⟨a,b,h1,h2⟩
    · exact .inl (by rw [pieces,if_neg hc,h])
    · refine .inr ⟨c :: a,b,by rw [h1];rfl,?_⟩
      rw [pieces,if_neg hc,h2,pieces,if_neg hc]
      cases hp:pieces a with
      | nil=>exact absurd hp (pieces_ne a)
      | cons p ps=>rfl
theorem lastP_one {l:List UInt8} (h:pieces l=[l]):lastP l=l:=by
 have:∀(ps:List (List UInt8)) (hne:ps≠[]),ps=[l]→ps.getLast hne=l:=by rintro ps hne rfl;rfl
 exact this _ _ h
theorem lastP_two {l a b:List UInt8} (h:pieces l=pieces a++[b]):lastP l=b:=by
 have:∀(ps:List (List UInt8)) (hne:ps≠[]),ps=pieces a++[b]→ps.getLast hne=b:=by rintro ps hne rfl;simp
 exact this _ _ h
theorem aheadL_one {l:List UInt8} (h:pieces l=[l]):aheadL l=[]:=by rw [aheadL,lastP_one h];simp
theorem aheadL_two {l a b:List UInt8} (h1:l=a++47 :: b) (h:pieces l=pieces a++[b]):aheadL l=a:=by
 rw [aheadL,lastP_two h,h1,List.length_append,List.length_cons,show a.length+(b.length+1) - b.length - 1=a.length by omega,List.take_left]
theorem may_parts {l:List UInt8} (h:mayB l=true):l.length≤160∧(pieces l).length≤6∧(pieces l).all nameB=true∧(aheadL l).length≤111:=by
 unfold mayB goodB at h;simp only [Bool.and_eq_true,decide_eq_true_eq] at h;exact ⟨h.1.1,h.1.2.1,h.1.2.2,h.2⟩
theorem may_of {l:List UInt8} (h1:l.length≤160) (h2:(pieces l).length≤6) (h3:(pieces l).all nameB=true) (h4:(aheadL l).length≤111):mayB l=true:=by
 unfold mayB goodB;simp only [Bool.and_eq_true,decide_eq_true_eq];exact ⟨⟨h1,h2,h3⟩,h4⟩
theorem may_split {l:List UInt8} (h:mayB l=true):(aheadL l=[]∧lastP l=l∧(pieces l).length=1)∨(aheadL l≠[]∧l=aheadL l++47 :: lastP l∧mayB (aheadL l)=true∧withinB l (aheadL l)=true):=by
 obtain ⟨h1,h2,h3,h4⟩:=may_parts h;rcases split_last l with e | ⟨a,b,e1,e2⟩
 · exact .inl ⟨aheadL_one e,lastP_one e,by rw [e];rfl⟩
 · right
   have ha:=aheadL_two e1 e2;have hb:=lastP_two e2;rw [e2,List.all_append] at h3;simp only [Bool.and_eq_true] at h3;have hne:a≠[]:=by
    rintro rfl;have:=h3.1;simp [pieces,nameB,headB] at this
   rw [ha] at h4 ⊢;have hm:mayB a=true:=may_of (by omega) (by rw [e2,List.length_append] at h2;omega) h3.1 (Nat.le_trans (aheadL_len a) h4)
   exact ⟨hne,by rw [hb];exact e1,hm,withinB_mk h hm ⟨b,e1⟩⟩
end Go.Proofs.YtahkcemdbfjilaaGreatDoor
namespace Go.Proofs.YtahkcemdbfjilaaGreatDoor
abbrev By:=List UInt8
structure Nd where
 kind:Int
 data:By
 target:By
 time:Int
abbrev Tr:=List (By × Nd)
def look:Tr→By→Option Nd
 | [],_=>none
 | (q,n) :: L,p=>if q=p then some n else look L p
def del (L:Tr) (p:By):Tr:=L.filter fun x=>decide (x.1≠p)
def ins (p:By) (n:Nd):Tr→Tr
 | []=>[(p,n)]
 | (q,m) :: L=>if cmpL p q≤0 then (p,n) :: del ((q,m) :: L) p else (q,m) :: ins p n L
def useN (n:Nd):Nat:=64+n.data.length
def usedL:Tr→Nat
 | []=>0
 | (_,n) :: L=>useN n+usedL L
def useP (L:Tr) (p:By):Nat:=match look L p with | some n=>useN n | none=>0
def Srt (L:Tr):Prop:=L.Pairwise fun a b=>cmpL a.1 b.1 = -1
theorem look_none {L:Tr} {p:By}:look L p=none↔∀x∈L,x.1≠p:=by
 induction L with
 | nil=>simp [look]
 | cons a L ih =>
  obtain ⟨q,n⟩:=a;rw [look];by_cases h:q=p
  · simp [h]
  · rw [if_neg h,ih];simp [h]
theorem look_mem {L:Tr} {p:By} {n:Nd} (h:look L p=some n):(p,n)∈L:=by
 induction L with
 | nil=>cases h
 | cons a L ih =>
  obtain ⟨q,m⟩:=a;rw [look] at h;split at h
  · rename_i e;obtain rfl:=e;cases h;exact List.mem_cons_self
  · exact List.mem_cons_of_mem _ (ih h)
theorem cmpL_ne {a b:By} (h:cmpL a b = -1):a≠b:=by rintro rfl;rw [cmpL_self] at h;cases h
theorem mem_look {L:Tr} (hs:Srt L) {p:By} {n:Nd} (h:(p,n)∈L):look L p=some n:=by
 induction L with
 | nil=>cases h
 | cons a L ih =>
  obtain ⟨q,m⟩:=a;rw [look];obtain ⟨h1,h2⟩:=List.pairwise_cons.1 hs;rcases List.mem_cons.1 h with e | e
  · injection e with e1 e2;rw [if_pos e1.symm,e2]
  · rw [if_neg (cmpL_ne (h1 _ e)),ih h2 e]
theorem look_del (L:Tr) (p q:By):look (del L p) q=if q=p then none else look L q:=by
 induction L with
 | nil=>simp [del,look]
 | cons a L ih =>
  obtain ⟨x,m⟩:=a;unfold del at ih ⊢;by_cases h:x=p
  · rw [List.filter_cons,if_neg (by simp [h]),ih,look]
    by_cases e:q=p
    · rw [if_pos e,if_pos e]
    · rw [if_neg e,if_neg e,if_neg (by rw [h];exact fun k=>e k.symm)]
  · rw [List.filter_cons,if_pos (by simp [h]),look,look,ih]
    by_cases e:x=q
    · rw [if_pos e,if_pos e,if_neg (by rw [←e];exact h)]
    · rw [if_neg e,if_neg e]
theorem look_ins (p:By) (n:Nd) (L:Tr) (q:By):look (ins p n L) q=if q=p then some n else look L q:=by
 induction L with
 | nil=>simp only [ins,look,eq_comm]
 | cons a L ih =>
  obtain ⟨x,m⟩:=a;rw [ins];by_cases h:cmpL p x≤0
  · rw [if_pos h,look,look_del]
    by_cases e:q=p
    · rw [if_pos e.symm,if_pos e]
    · rw [if_neg (fun k=>e k.symm),if_neg e,if_neg e]
  · rw [if_neg h,look,ih,look]
    have hne:x≠p:=by rintro rfl;rw [cmpL_self] at h;exact h (Int.le_refl 0)
    by_cases e:x=q
    · rw [if_pos e,if_pos e,if_neg (by rw [←e];exact hne)]
    · rw [if_neg e,if_neg e]
theorem srt_del {L:Tr} (h:Srt L) (p:By):Srt (del L p):=h.filter _
theorem mem_ins {p:By} {n:Nd} {L:Tr} {x:By × Nd} (h:x∈ins p n L):x=(p,n)∨x∈L:=by
 induction L with
 | nil=>rw [ins] at h;simp at h;exact .inl h
 | cons a L ih =>
  obtain ⟨q,m⟩:=a;rw [ins] at h;split at h
  · rcases List.mem_cons.1 h with e | e
    · exact .inl e
    · exact .inr (List.mem_filter.1 e).1
  · rcases List.mem_cons.1 h with e | e
    · exact .inr (by rw [e];exact List.mem_cons_self)
    · rcases ih e with e | e
      · exact .inl e
      · exact .inr (List.mem_cons_of_mem _ e)
theorem srt_ins {L:Tr} (h:Srt L) (p:By) (n:Nd):Srt (ins p n L):=by
 induction L with
 | nil=>exact List.pairwise_singleton _ _
 | cons a L ih =>
  obtain ⟨q,m⟩:=a;obtain ⟨h1,h2⟩:=List.pairwise_cons.1 h;rw [ins];split
  · rename_i hc
    refine List.pairwise_cons.2 ⟨?_,srt_del h p⟩;intro x hx;obtain ⟨hm,hne⟩:=List.mem_filter.1 hx;have hne:x.1≠p:=by simpa using hne
    have hpq:cmpL p q = -1∨p=q:=by
     rcases cmpL_vals p q with e | e | e
     · exact .inl e
     · exact .inr ((cmpL_zero _ _).1 e)
     · omega
    rcases List.mem_cons.1 hm with e | e
    · rcases hpq with k | k
      · rw [e];exact k
      · exact absurd (by rw [e,k]) hne
    · rcases hpq with k | k
      · exact cmpL_trans _ _ _ k (h1 _ e)
      · rw [k];exact h1 _ e
  · rename_i hc
    refine List.pairwise_cons.2 ⟨?_,ih h2⟩;intro x hx;rcases mem_ins hx with e | e
    · rw [e]
      have:=cmpL_neg p q;rcases cmpL_vals p q with k | k | k<;>(show cmpL q p = -1)<;>omega
    · exact h1 _ e
theorem head_least {q:By} {m:Nd} {L:Tr} (h:Srt ((q,m) :: L)) {p:By} {n:Nd} (hp:look ((q,m) :: L) p=some n):p=q∨cmpL q p = -1:=by
 rcases List.mem_cons.1 (look_mem hp) with e | e
 · injection e with e1 _;exact .inl e1
 · exact .inr ((List.pairwise_cons.1 h).1 _ e)
theorem tree_ext {L K:Tr} (hl:Srt L) (hk:Srt K) (h:∀p,look L p=look K p):L=K:=by
 induction L generalizing K with
 | nil =>
  cases K with
  | nil=>rfl
  | cons b K=>obtain ⟨r,m⟩:=b;have:=h r;rw [look,look,if_pos rfl] at this;cases this
 | cons a L ih =>
  obtain ⟨q,n⟩:=a
  cases K with
  | nil=>have:=h q;rw [look,look,if_pos rfl] at this;cases this
  | cons b K =>
   obtain ⟨r,m⟩:=b;have e1:look ((r,m) :: K) q=some n:=by rw [←h,look,if_pos rfl]
   have e2:look ((q,n) :: L) r=some m:=by rw [h,look,if_pos rfl]
   have hqr:q=r:=by
    rcases head_least hk e1 with e | e
    · exact e
    · rcases head_least hl e2 with k | k
      · exact k.symm
      · have:=cmpL_neg q r;rw [e,k] at this;cases this
   subst hqr;rw [look,if_pos rfl] at e1;injection e1 with e1;subst e1;obtain ⟨l1,l2⟩:=List.pairwise_cons.1 hl;obtain ⟨k1,k2⟩:=List.pairwise_cons.1 hk;rw [ih l2 k2 (fun p=>by
    have hp:=h p;rw [look,look] at hp;by_cases e:q=p
    · subst e
      rw [look_none.2 (fun x hx=>(cmpL_ne (l1 x hx)).symm),look_none.2 (fun x hx=>(cmpL_ne (k1 x hx)).symm)]
    · rw [if_neg e,if_neg e] at hp;exact hp)]
theorem del_same {L:Tr} {p:By} (h:look L p=none):del L p=L:=by
 unfold del;rw [List.filter_eq_self];intro x hx;simpa using look_none.1 h x hx
theorem used_del {L:Tr} (h:Srt L) (p:By):usedL (del L p)+useP L p=usedL L:=by
 induction L with
 | nil=>rfl
 | cons a L ih =>
  obtain ⟨q,n⟩:=a;obtain ⟨h1,h2⟩:=List.pairwise_cons.1 h;have ih:=ih h2;by_cases e:q=p
  · subst e
    have hn:look L q=none:=look_none.2 (fun x hx=>(cmpL_ne (h1 x hx)).symm)
    have:del ((q,n) :: L) q=L:=by
     show List.filter _ _=_
     rw [List.filter_cons,if_neg (by simp)];exact del_same hn
    rw [this,usedL,useP,look,if_pos rfl];simp only;omega
  · have h3:del ((q,n) :: L) p=(q,n) :: del L p:=by
     show List.filter _ _=_
     rw [List.filter_cons,if_pos (by simpa using e)];rfl
    have h4:useP ((q,n) :: L) p=useP L p:=by rw [useP,useP,look,if_neg e]
    rw [h3,h4,usedL,usedL];omega
theorem used_ins {L:Tr} (h:Srt L) (p:By) (n:Nd):usedL (ins p n L)+useP L p=usedL L+useN n:=by
 induction L with
 | nil=>simp [ins,usedL,useP,look]
 | cons a L ih =>
  obtain ⟨q,m⟩:=a;obtain ⟨h1,h2⟩:=List.pairwise_cons.1 h;have ih:=ih h2;rw [ins];split
  · have:=used_del h p
    rw [usedL];omega
  · rename_i hc
    have e:q≠p:=by rintro rfl;rw [cmpL_self] at hc;exact hc (Int.le_refl 0)
    have h4:useP ((q,m) :: L) p=useP L p:=by rw [useP,useP,look,if_neg e]
    rw [h4,usedL,usedL];omega
theorem useP_le {L:Tr} (h:Srt L) (p:By):useP L p≤usedL L:=by have:=used_del h p;omega
theorem len_del {L:Tr} (h:Srt L) (p:By):(del L p).length=if (look L p).isSome then L.length - 1 else L.length:=by
 induction L with
 | nil=>rfl
 | cons a L ih =>
  obtain ⟨q,n⟩:=a;obtain ⟨h1,h2⟩:=List.pairwise_cons.1 h;have ih:=ih h2;by_cases e:q=p
  · subst e
    have hn:look L q=none:=look_none.2 (fun x hx=>(cmpL_ne (h1 x hx)).symm)
    have:del ((q,n) :: L) q=L:=by
     show List.filter _ _=_
     rw [List.filter_cons,if_neg (by simp)];exact del_same hn
    rw [this,look,if_pos rfl];simp
  · have h3:del ((q,n) :: L) p=(q,n) :: del L p:=by
     show List.filter _ _=_
     rw [List.filter_cons,if_pos (by simpa using e)];rfl
    rw [h3,look,if_neg e,List.length_cons,ih]
    cases hl:look L p with
    | none=>simp
    | some m =>
     have:0 < L.length:=List.length_pos_of_mem (look_mem hl);simp;omega
theorem len_ins {L:Tr} (h:Srt L) (p:By) (n:Nd):(ins p n L).length=if (look L p).isSome then L.length else L.length+1:=by
 induction L with
 | nil=>rfl
 | cons a L ih =>
  obtain ⟨q,m⟩:=a;obtain ⟨h1,h2⟩:=List.pairwise_cons.1 h;have ih:=ih h2;rw [ins];split
  · have:=len_del h p
    rw [List.length_cons,this];split
    · rw [List.length_cons];omega
    · rfl
  · rename_i hc
    have e:q≠p:=by rintro rfl;rw [cmpL_self] at hc;exact hc (Int.le_refl 0)
    rw [look,if_neg e,List.length_cons,ih];split<;>simp
theorem used_len {L:Tr}:64*L.length≤usedL L:=by
 induction L with
 | nil=>exact Nat.le_refl 0
 | cons a L ih=>obtain ⟨q,m⟩:=a;rw [usedL,List.length_cons,useN];omega
end Go.Proofs.YtahkcemdbfjilaaGreatDoor
namespace Go.Proofs.YtahkcemdbfjilaaGreatDoor
def n0:Nd:=⟨0,[],[],0⟩
inductive Eff
 | write (p d:By) (t:Int)
 | append (p d:By)
 | mkdir (p:By)
 | link (p g:By) (t:Int)
 | rename (a b:By)
 | remove (p:By)
def kindP (L:Tr) (p:By):Int:=if p=[] then 2 else match look L p with | some n=>n.kind | none=>0
def noDirE (L:Tr) (p:By):Int:=if kindP L p=2 then 0 else if (look L p).isSome then 12 else 5
def homeE (L:Tr) (p:By):Int:=noDirE L (aheadL p)
def takenE (L:Tr) (p:By):Int:=match look L p with | some n=>if n.kind=2 then 12 else if n.kind=3 then 11 else 0 | none=>0
def putE (room:Nat) (L:Tr) (p:By) (n:Nd):Int × Tr:=if usedL L+useN n≤room+useP L p then (0,ins p n L) else (7,L)
def timeB (t:Int):Bool:=decide (0≤t)&&decide (t≤4294967295)
def addE (room:Nat) (L:Tr) (p:By) (n:Nd):Int × Tr:=if homeE L p=0 then (if (look L p).isSome then (6,L) else putE room L p n) else (homeE L p,L)
def restsL (L:Tr) (b:By):List By:=L.filterMap fun x=>if b.isPrefixOf x.1 then some (x.1.drop b.length) else none
def beginL (p:By):By:=if p=[] then [] else p++[47]
def innerL (L:Tr) (p:By):List By:=if kindP L p=2 then restsL L (beginL p) else []
def mv1 (T:Tr) (a b:By):Tr:=del (ins b ((look T a).getD n0) T) a
def mvs (a b:By) (T:Tr) (rs:List By):Tr:=rs.foldl (fun T r=>mv1 T (a++47 :: r) (b++47 :: r)) T
def mvAll (L:Tr) (a b:By) (rs:List By):Tr:=mvs a b (mv1 (del L b) a b) rs
def farB (b:By) (rs:List By):Bool:=rs.all fun r=>mayB (b++47 :: r)
def stepE (room:Nat) (L:Tr):Eff→Int × Tr
 | .write p d t=>if mayB p then (if timeB t then (if homeE L p=0 then (if takenE L p=0 then putE room L p ⟨1,d,[],t⟩ else (takenE L p,L)) else (homeE L p,L)) else (2,L)) else (10,L)
 | .append p d=>if mayB p then (match look L p with | some n=>if takenE L p=0 then putE room L p ⟨n.kind,n.data++d,n.target,n.time⟩ else (takenE L p,L) | none=>(5,L)) else (10,L)
 | .mkdir p=>if mayB p then addE room L p ⟨2,[],[],0⟩ else (10,L)
 | .link p g t=>if mayB p then (if timeB t&&decide (1≤g.length)&&decide (g.length≤160) then addE room L p ⟨3,[],g,t⟩ else (2,L)) else (10,L)
 | .rename a b=>if mayB a&&mayB b then (if b=a∨withinB b a=true then (2,L) else if (look L a).isSome then (if homeE L b=0 then (if kindP L b=2∨(kindP L a=2∧(look L b).isSome) then (12,L) else if farB b (innerL L a) then (0,mvAll L a b (innerL L a)) else (10,L)) else (homeE L b,L)) else (5,L)) else (10,L)
 | .remove p=>if mayB p then (if (look L p).isSome then (if innerL L p=[] then (0,del L p) else (22,L)) else (5,L)) else (10,L)
structure WFT (room:Nat) (L:Tr):Prop where
 srt:Srt L
 may:∀p,(look L p).isSome→mayB p=true
 kind:∀p n,look L p=some n→n.kind=1∨n.kind=2∨n.kind=3
 par:∀p,(look L p).isSome→kindP L (aheadL p)=2
 used:usedL L≤room
theorem WFT.nil (room:Nat):WFT room []:=⟨List.Pairwise.nil,fun p h=>(by cases h),fun p n h=>(by cases h),fun p h=>(by cases h),Nat.zero_le _⟩
theorem may_ne {p:By} (h:mayB p=true):p≠[]:=by rintro rfl;rw [mayB_nil] at h;cases h
theorem ahead_behind (d r:By):aheadL (d++47 :: r)=if 47∈r then d++47 :: aheadL r else d:=by
 have hp:∀d r:By,pieces (d++47 :: r)=pieces d++pieces r:=by
  intro d r;induction d with
  | nil=>show pieces (47 :: r)=[] :: pieces r;rw [pieces,if_pos rfl]
  | cons c d ih =>
   rw [List.cons_append,pieces,pieces,ih];by_cases hc:c=47
   · rw [if_pos hc,if_pos hc];rfl
   · rw [if_neg hc,if_neg hc]
     cases h:pieces d with
     | nil=>exact absurd h (pieces_ne d)
     | cons x xs=>rfl
 have hno:∀r:By,47∉r→pieces r=[r]:=by
  intro r;induction r with
  | nil=>intro _;rfl
  | cons c r ih =>
   intro h;rw [pieces,if_neg (by rintro rfl;exact h List.mem_cons_self),ih (fun k=>h (List.mem_cons_of_mem _ k))]
 split
 · rename_i hm
   rcases split_last r with e | ⟨a,b,e1,e2⟩
   · exfalso
     have:∀(l:By),∀x∈pieces l,47∉x:=by
      intro l;induction l with
      | nil=>intro x hx;simp [pieces] at hx;rw [hx];simp
      | cons c l ih =>
       intro x hx;rw [pieces] at hx;split at hx
       · rcases List.mem_cons.1 hx with k | k
         · rw [k];simp
         · exact ih x k
       · rename_i hc
         cases hq:pieces l with
         | nil=>exact absurd hq (pieces_ne l)
         | cons y ys =>
          rw [hq] at hx ih;simp only at hx;rcases List.mem_cons.1 hx with k | k
          · rw [k]
            intro hh;rcases List.mem_cons.1 hh with k2 | k2
            · exact hc k2.symm
            · exact ih y List.mem_cons_self k2
          · exact ih x (List.mem_cons_of_mem _ k)
     exact this r r (by rw [e];exact List.mem_cons_self) hm
   · rw [aheadL_two e1 e2]
     refine aheadL_two (b:=b) (by rw [e1];simp) ?_
     rw [hp d r,e2,hp d a];simp
 · rename_i hm
   exact aheadL_two rfl (by rw [hp,hno r hm])
theorem mem_rests {L:Tr} {b r:By}:r∈restsL L b↔(look L (b++r)).isSome:=by
 unfold restsL;rw [List.mem_filterMap];constructor
 · rintro ⟨x,hx,h⟩
   split at h
   · rename_i hp
     injection h with h;obtain ⟨s,hs⟩:=List.isPrefixOf_iff_prefix.1 hp;have:b++r=x.1:=by rw [←h,←hs];simp
     rw [this]
     cases hl:look L x.1 with
     | none=>exact absurd rfl (look_none.1 hl x hx)
     | some _=>rfl
   · cases h
 · intro h
   cases hl:look L (b++r) with
   | none=>rw [hl] at h;cases h
   | some n=>exact ⟨_,look_mem hl,by rw [if_pos (List.isPrefixOf_iff_prefix.2 ⟨r,rfl⟩)];simp⟩
theorem nodup_rests {L:Tr} (hs:Srt L) (b:By):(restsL L b).Nodup:=by
 induction L with
 | nil=>exact List.nodup_nil
 | cons a L ih =>
  obtain ⟨h1,h2⟩:=List.pairwise_cons.1 hs;have ih:=ih h2;unfold restsL at ih ⊢;rw [List.filterMap_cons];split
  · exact ih
  · rename_i y hy
    refine List.nodup_cons.2 ⟨?_,ih⟩;intro hm;obtain ⟨x,hx,hxe⟩:=List.mem_filterMap.1 hm;split at hy
    · rename_i p1
      split at hxe
      · rename_i p2
        injection hy with hy;injection hxe with hxe;obtain ⟨s1,e1⟩:=List.isPrefixOf_iff_prefix.1 p1;obtain ⟨s2,e2⟩:=List.isPrefixOf_iff_prefix.1 p2;have k1:b++y=a.1:=by rw [←hy,←e1];simp
        have k2:b++y=x.1:=by rw [←hxe,←e2];simp
        have:a.1=x.1:=k1.symm.trans k2;exact cmpL_ne (h1 x hx) this
      · cases hxe
    · cases hy
theorem WFT.anc {room:Nat} {L:Tr} (h:WFT room L) (d:By) (m:Nat):∀r:By,r.length≤m→(look L (d++47 :: r)).isSome→kindP L d=2:=by
 induction m with
 | zero =>
  intro r hr hl;obtain rfl:=List.length_eq_zero_iff.1 (Nat.le_zero.1 hr);have:=h.par _ hl;rwa [ahead_behind,if_neg (by simp)] at this
 | succ m ih =>
  intro r hr hl;have hp:=h.par _ hl;rw [ahead_behind] at hp;split at hp
  · rename_i hm
    refine ih (aheadL r) ?_ ?_
    · have h1:0 < r.length:=List.length_pos_of_mem hm
      have h2:(aheadL r).length≤r.length - 1:=by rw [aheadL,List.length_take];omega
      omega
    · unfold kindP at hp
      rw [if_neg (by simp)] at hp
      cases hq:look L (d++47 :: aheadL r) with
      | none=>rw [hq] at hp;cases hp
      | some n=>rfl
  · exact hp
theorem kindP_some {L:Tr} {p:By} (hp:p≠[]) (h:kindP L p=2):(look L p).isSome:=by
 unfold kindP at h;rw [if_neg hp] at h
 cases hl:look L p with
 | none=>rw [hl] at h;cases h
 | some n=>rfl
theorem begin_cons {p:By} (hp:p≠[]) (r:By):beginL p++r=p++47 :: r:=by rw [beginL,if_neg hp];simp
theorem WFT.inner {room:Nat} {L:Tr} (h:WFT room L) {a:By} (ha:a≠[]) (r:By):r∈innerL L a↔(look L (a++47 :: r)).isSome:=by
 unfold innerL;split
 · rw [mem_rests,begin_cons ha]
 · rename_i hk
   exact ⟨fun h=>(by cases h),fun hl=>absurd (h.anc a _ r (Nat.le_refl _) hl) hk⟩
theorem WFT.inner_nodup {room:Nat} {L:Tr} (h:WFT room L) (a:By):(innerL L a).Nodup:=by
 unfold innerL;split
 · exact nodup_rests h.srt _
 · exact List.nodup_nil
theorem ahead_lt {p:By} (h:p≠[]):(aheadL p).length < p.length:=by
 have:=List.length_pos_iff.2 h;rw [aheadL,List.length_take];omega
theorem kindP_ins {L:Tr} {p q:By} {n:Nd} (h:q≠p):kindP (ins p n L) q=kindP L q:=by
 unfold kindP;rw [look_ins,if_neg h]
theorem wft_put {room:Nat} {L:Tr} (h:WFT room L) {p:By} {n:Nd} (hm:mayB p=true) (hh:kindP L (aheadL p)=2) (hp:kindP L p≠2) (hk:n.kind=1∨n.kind=2∨n.kind=3) (hu:usedL (ins p n L)≤room):WFT room (ins p n L) where
 srt:=srt_ins h.srt _ _
 may q hq:=by
  rw [look_ins] at hq;split at hq
  · rename_i e;rw [e];exact hm
  · exact h.may q hq
 kind q m hq:=by
  rw [look_ins] at hq;split at hq
  · injection hq with hq;rw [←hq];exact hk
  · exact h.kind q m hq
 par q hq:=by
  have hlt:=ahead_lt (may_ne hm);rw [look_ins] at hq;split at hq
  · rename_i e;subst e
    rw [kindP_ins (fun k=>by rw [k] at hlt;omega)];exact hh
  · have h2:=h.par q hq
    rw [kindP_ins (fun k=>hp (by rw [←k];exact h2))];exact h2
 used:=hu
theorem put_wft {room:Nat} {L:Tr} (h:WFT room L) {p:By} {n:Nd} (hm:mayB p=true) (hh:kindP L (aheadL p)=2) (hp:kindP L p≠2) (hk:n.kind=1∨n.kind=2∨n.kind=3):WFT room (putE room L p n).2:=by
 unfold putE;split
 · rename_i hc
   have:=used_ins h.srt p n;exact wft_put h hm hh hp hk (by omega)
 · exact h
theorem home_dir {L:Tr} {p:By} (h:homeE L p=0):kindP L (aheadL p)=2:=by
 unfold homeE noDirE at h;split at h
 · assumption
 · split at h<;>cases h
theorem add_wft {room:Nat} {L:Tr} (h:WFT room L) {p:By} {n:Nd} (hm:mayB p=true) (hk:n.kind=1∨n.kind=2∨n.kind=3):WFT room (addE room L p n).2:=by
 unfold addE;split
 · rename_i hh
   split
   · exact h
   · rename_i hl
     refine put_wft h hm (home_dir hh) (fun k=>?_) hk
     exact hl (kindP_some (may_ne hm) k)
 · exact h
theorem taken_not {L:Tr} {p:By} (hm:mayB p=true) (h:takenE L p=0):kindP L p≠2:=by
 unfold kindP;unfold takenE at h;rw [if_neg (may_ne hm)]
 cases hl:look L p with
 | none=>simp
 | some n =>
  rw [hl] at h;simp only at h ⊢;intro hk;rw [if_pos hk] at h;cases h
theorem wft_del {room:Nat} {L:Tr} (h:WFT room L) {p:By} (hi:innerL L p=[]) (hp:p≠[]):WFT room (del L p) where
 srt:=srt_del h.srt _
 may q hq:=by
  rw [look_del] at hq;split at hq
  · cases hq
  · exact h.may q hq
 kind q m hq:=by
  rw [look_del] at hq;split at hq
  · cases hq
  · exact h.kind q m hq
 par q hq:=by
  rw [look_del] at hq;split at hq
  · cases hq
  · have h2:=h.par q hq
    have hne:aheadL q≠p:=by
     intro e;rcases may_split (h.may q hq) with ⟨k,_⟩ | ⟨_,k,_⟩
     · exact hp (e.symm.trans k)
     · rw [e] at k
       have:lastP q∈innerL L p:=(h.inner hp _).2 (by rw [←k];exact hq)
       rw [hi] at this;cases this
    unfold kindP at h2 ⊢;rw [look_del,if_neg hne];exact h2
 used:=by have:=used_del h.srt p;have:=h.used;omega
theorem look_mv1 {T:Tr} {a b:By} (_:a≠b) (q:By):look (mv1 T a b) q=if q=a then none else if q=b then some ((look T a).getD n0) else look T q:=by
 unfold mv1;rw [look_del,look_ins]
theorem behind_eq {a b r s:By} (h:a++47 :: r=b++47 :: s):a=b∨(∃x,b=a++47 :: x)∨∃x,a=b++47 :: x:=by
 rcases List.append_eq_append_iff.1 h with ⟨x,h1,h2⟩ | ⟨x,h1,h2⟩
 · cases x with
   | nil=>exact .inl (by simpa using h1.symm)
   | cons c x=>simp at h2;exact .inr (.inl ⟨x,by rw [h1,←h2.1]⟩)
 · cases x with
   | nil=>exact .inl (by simpa using h1)
   | cons c x=>simp at h2;exact .inr (.inr ⟨x,by rw [h1,←h2.1]⟩)
structure Apart (a b:By):Prop where
 ne:a≠b
 l:∀x,b≠a++47 :: x
 r:∀x,a≠b++47 :: x
theorem Apart.behind {a b:By} (h:Apart a b) (r s:By):a++47 :: r≠b++47 :: s:=fun e=>by
 rcases behind_eq e with k | ⟨x,k⟩ | ⟨x,k⟩
 · exact h.ne k
 · exact h.l x k
 · exact h.r x k
open Classical in
theorem look_mvs {a b:By} (h:Apart a b) (rs:List By):∀T:Tr,rs.Nodup→∀q,look (mvs a b T rs) q =
 if ∃r∈rs,q=b++47 :: r then some ((look T (a++47 :: q.drop (b.length+1))).getD n0) else if ∃r∈rs,q=a++47 :: r then none else look T q:=by
 induction rs with
 | nil=>intro T _ q;simp [mvs]
 | cons r rs ih =>
  intro T hn q;obtain ⟨h1,h2⟩:=List.nodup_cons.1 hn;show look (mvs a b (mv1 T (a++47 :: r) (b++47 :: r)) rs) q=_
  rw [ih _ h2 q];have hd:∀x:By,(b++47 :: x).drop (b.length+1)=x:=fun x=>by
   rw [show b++47 :: x=(b++[47])++x by simp,List.drop_left' (by simp)]
  by_cases c1:∃s∈rs,q=b++47 :: s
  · obtain ⟨s,hs,e⟩:=c1
    rw [if_pos ⟨s,hs,e⟩,if_pos ⟨s,List.mem_cons_of_mem _ hs,e⟩,e,hd,look_mv1 (h.behind r r),if_neg,if_neg (h.behind s r)];intro k;have:=List.append_cancel_left k;injection this with _ k2;exact h1 (k2▸hs)
  · rw [if_neg c1]
    by_cases c2:q=b++47 :: r
    · rw [if_pos (⟨r,List.mem_cons_self,c2⟩:∃s∈r :: rs,q=b++47 :: s),if_neg (fun ⟨s,_,k⟩=>h.behind s r (k.symm.trans c2)),look_mv1 (h.behind r r),if_neg (fun k=>h.behind r r (k.symm.trans c2)),if_pos c2,c2,hd]
    · rw [if_neg (fun ⟨s,hs,k⟩=>by rcases List.mem_cons.1 hs with e | e;exact c2 (by rw [k,e]);exact c1 ⟨s,e,k⟩:¬∃s∈r :: rs,q=b++47 :: s)]
      by_cases c3:∃s∈rs,q=a++47 :: s
      · obtain ⟨s,hs,e⟩:=c3
        rw [if_pos ⟨s,hs,e⟩,if_pos ⟨s,List.mem_cons_of_mem _ hs,e⟩]
      · rw [if_neg c3,look_mv1 (h.behind r r)]
        by_cases c4:q=a++47 :: r
        · rw [if_pos c4,if_pos ⟨r,List.mem_cons_self,c4⟩]
        · rw [if_neg c4,if_neg c2,if_neg (fun ⟨s,hs,k⟩=>by rcases List.mem_cons.1 hs with e | e;exact c4 (by rw [k,e]);exact c3 ⟨s,e,k⟩)]
theorem srt_mv1 {T:Tr} (h:Srt T) (a b:By):Srt (mv1 T a b):=srt_del (srt_ins h _ _) _
theorem srt_mvs {a b:By} (rs:List By):∀T:Tr,Srt T→Srt (mvs a b T rs):=by
 induction rs with
 | nil=>intro T h;exact h
 | cons r rs ih=>intro T h;exact ih _ (srt_mv1 h _ _)
theorem used_mv1 {T:Tr} (h:Srt T) {a b:By} (hab:a≠b) {n:Nd} (ha:look T a=some n) (hb:look T b=none):usedL (mv1 T a b)=usedL T:=by
 unfold mv1;rw [ha,Option.getD_some];have h1:=used_ins h b n;have h2:=used_del (srt_ins h b n) a;have h3:useP (ins b n T) a=useN n:=by rw [useP,look_ins,if_neg hab,ha]
 have h4:useP T b=0:=by rw [useP,hb]
 omega
theorem used_mvs {a b:By} (h:Apart a b) (rs:List By):∀T:Tr,Srt T→rs.Nodup→(∀r∈rs,(look T (a++47 :: r)).isSome)→(∀r∈rs,look T (b++47 :: r)=none)→usedL (mvs a b T rs)=usedL T:=by
 induction rs with
 | nil=>intro T _ _ _ _;rfl
 | cons r rs ih =>
  intro T hs hn h1 h2;obtain ⟨k1,k2⟩:=List.nodup_cons.1 hn;obtain ⟨n,hn'⟩:=Option.isSome_iff_exists.1 (h1 r List.mem_cons_self);show usedL (mvs a b (mv1 T (a++47 :: r) (b++47 :: r)) rs)=_
  have hne:∀x y s:By,s∈rs→x++47 :: s≠x++47 :: r:=fun x y s hs e=>by
   have:=List.append_cancel_left e;injection this with _ k;exact k1 (k▸hs)
  rw [ih _ (srt_mv1 hs _ _) k2,used_mv1 hs (h.behind r r) hn' (h2 r List.mem_cons_self)]
  · intro s hs'
    rw [look_mv1 (h.behind r r),if_neg (hne a a s hs'),if_neg (h.behind s r)];exact h1 s (List.mem_cons_of_mem _ hs')
  · intro s hs'
    rw [look_mv1 (h.behind r r),if_neg (fun e=>h.behind r s e.symm),if_neg (hne b b s hs')]
    exact h2 s (List.mem_cons_of_mem _ hs')
structure Moves (room:Nat) (L:Tr) (a b:By):Prop where
 wft:WFT room L
 ma:mayB a=true
 mb:mayB b=true
 ne:b≠a
 out:withinB b a=false
 src:(look L a).isSome
 home:homeE L b=0
 nd:kindP L b≠2
 nr:¬(kindP L a=2∧(look L b).isSome)
theorem Moves.apart {room:Nat} {L:Tr} {a b:By} (h:Moves room L a b):Apart a b where
 ne:=h.ne.symm
 l x e:=by
  have:=withinB_mk h.mb h.ma ⟨x,e⟩;rw [h.out] at this;cases this
 r x e:=h.nd (h.wft.anc b _ x (Nat.le_refl _) (by rw [←e];exact h.src))
theorem Moves.empty {room:Nat} {L:Tr} {a b:By} (h:Moves room L a b) (r:By):look L (b++47 :: r)=none:=by
 cases hl:look L (b++47 :: r) with
 | none=>rfl
 | some n=>exact absurd (h.wft.anc b _ r (Nat.le_refl _) (by rw [hl];rfl)) h.nd
open Classical in
theorem Moves.look {room:Nat} {L:Tr} {a b:By} (h:Moves room L a b) {rs:List By} (hr:rs.Perm (innerL L a)) (q:By) :
 look (mvAll L a b rs) q=if q=b then look L a else if ∃r,q=b++47 :: r∧(look L (a++47 :: r)).isSome then look L (a++47 :: q.drop (b.length+1)) else if q=a∨∃r,q=a++47 :: r then none else look L q:=by
 have hA:=h.apart;have hm:∀r,r∈rs↔(Go.Proofs.YtahkcemdbfjilaaGreatDoor.look L (a++47 :: r)).isSome:=fun r=>by rw [hr.mem_iff,h.wft.inner (may_ne h.ma)]
 have hd:∀x:By,(b++47 :: x).drop (b.length+1)=x:=fun x=>by
  rw [show b++47 :: x=(b++[47])++x by simp,List.drop_left' (by simp)]
 have hT:∀q,Go.Proofs.YtahkcemdbfjilaaGreatDoor.look (mv1 (del L b) a b) q=if q=a then none else if q=b then some ((Go.Proofs.YtahkcemdbfjilaaGreatDoor.look L a).getD n0) else Go.Proofs.YtahkcemdbfjilaaGreatDoor.look L q:=by
  intro q;rw [look_mv1 hA.ne,look_del,if_neg hA.ne,look_del];split
  · rfl
  · split
    · rfl
    · rfl
 have hqb:∀x,b++47 :: x≠b:=fun x e=>by have:=congrArg List.length e;simp at this
 unfold mvAll;rw [look_mvs hA rs _ (hr.nodup_iff.2 (h.wft.inner_nodup a))];obtain ⟨n,hn⟩:=Option.isSome_iff_exists.1 h.src;by_cases c0:q=b
 · rw [if_neg (fun ⟨r,_,k⟩=>hqb r (k.symm.trans c0)),if_neg (fun ⟨r,_,k⟩=>hA.l r (c0.symm.trans k)),hT,if_neg (fun k=>hA.ne (k.symm.trans c0)),if_pos c0,if_pos c0,hn];rfl
 · rw [if_neg c0]
   by_cases c1:∃r,q=b++47 :: r∧(Go.Proofs.YtahkcemdbfjilaaGreatDoor.look L (a++47 :: r)).isSome
   · obtain ⟨r,e,hl⟩:=c1
     rw [if_pos ⟨r,(hm r).2 hl,e⟩,if_pos ⟨r,e,hl⟩,e,hd,hT,if_neg (fun k=>by have:=congrArg List.length k;simp at this),if_neg (fun k=>hA.l r k.symm)]
     obtain ⟨m,hm'⟩:=Option.isSome_iff_exists.1 hl;rw [hm'];rfl
   · rw [if_neg (fun ⟨r,hr',k⟩=>c1 ⟨r,k,(hm r).1 hr'⟩),if_neg c1]
     by_cases c2:q=a∨∃r,q=a++47 :: r
     · rw [if_pos c2]
       split
       · rfl
       · rename_i c3
         rw [hT];rcases c2 with k | ⟨r,k⟩
         · rw [if_pos k]
         · rw [if_neg (fun e=>by rw [e] at k;have:=congrArg List.length k;simp at this),if_neg c0]
           cases hl:Go.Proofs.YtahkcemdbfjilaaGreatDoor.look L q with
           | none=>rfl
           | some m=>exact absurd ⟨r,(hm r).2 (by rw [←k,hl];rfl),k⟩ c3
     · rw [if_neg c2,if_neg (fun ⟨r,_,k⟩=>c2 (.inr ⟨r,k⟩)),hT,if_neg (fun k=>c2 (.inl k)),if_neg c0]
theorem Moves.srt {room:Nat} {L:Tr} {a b:By} (h:Moves room L a b) (rs:List By):Srt (mvAll L a b rs):=srt_mvs _ _ (srt_mv1 (srt_del h.wft.srt _) _ _)
theorem Moves.used {room:Nat} {L:Tr} {a b:By} (h:Moves room L a b) {rs:List By} (hr:rs.Perm (innerL L a)):usedL (mvAll L a b rs)+useP L b=usedL L:=by
 have hA:=h.apart;have hm:∀r,r∈rs↔(Go.Proofs.YtahkcemdbfjilaaGreatDoor.look L (a++47 :: r)).isSome:=fun r=>by rw [hr.mem_iff,h.wft.inner (may_ne h.ma)]
 obtain ⟨n,hn⟩:=Option.isSome_iff_exists.1 h.src;have h0:=used_del h.wft.srt b;have h1:usedL (mv1 (del L b) a b)=usedL (del L b):=used_mv1 (srt_del h.wft.srt _) hA.ne (n:=n) (by rw [look_del,if_neg hA.ne,hn]) (by rw [look_del,if_pos rfl])
 have hT:∀r,Go.Proofs.YtahkcemdbfjilaaGreatDoor.look (mv1 (del L b) a b) (a++47 :: r)=Go.Proofs.YtahkcemdbfjilaaGreatDoor.look L (a++47 :: r):=fun r=>by
  rw [look_mv1 hA.ne,if_neg (fun k=>by have:=congrArg List.length k;simp at this),if_neg (fun k=>hA.l r k.symm),look_del,if_neg (fun k=>hA.l r k.symm)]
 have hT2:∀r,Go.Proofs.YtahkcemdbfjilaaGreatDoor.look (mv1 (del L b) a b) (b++47 :: r)=none:=fun r=>by
  rw [look_mv1 hA.ne,if_neg (fun k=>hA.r r k.symm),if_neg (fun k=>by have:=congrArg List.length k;simp at this),look_del,if_neg (fun k=>by have:=congrArg List.length k;simp at this),h.empty]
 have h2:=used_mvs hA rs (mv1 (del L b) a b) (srt_mv1 (srt_del h.wft.srt _) _ _) (hr.nodup_iff.2 (h.wft.inner_nodup a)) (fun r hr'=>by rw [hT];exact (hm r).1 hr') (fun r _=>hT2 r)
 unfold mvAll;omega
theorem kindP_look {L K:Tr} {p q:By} (hp:p≠[]) (hq:q≠[]) (h:look L p=look K q):kindP L p=kindP K q:=by
 unfold kindP;rw [if_neg hp,if_neg hq,h]
theorem Moves.stays {room:Nat} {L:Tr} {a b:By} (h:Moves room L a b) (hf:farB b (innerL L a)=true):WFT room (mvAll L a b (innerL L a)):=by
 have hA:=h.apart;have hL:=h.look (List.Perm.refl _);have hfar:∀r,(Go.Proofs.YtahkcemdbfjilaaGreatDoor.look L (a++47 :: r)).isSome→mayB (b++47 :: r)=true:=fun r hr=>List.all_eq_true.1 hf r ((h.wft.inner (may_ne h.ma) r).2 hr)
 have hd:∀x:By,(b++47 :: x).drop (b.length+1)=x:=fun x=>by
  rw [show b++47 :: x=(b++[47])++x by simp,List.drop_left' (by simp)]
 have hnb:∀x:By,b++47 :: x≠b:=fun x e=>by have:=congrArg List.length e;simp at this
 -- what stands behind, told by cases
 have hcase:∀q n,Go.Proofs.YtahkcemdbfjilaaGreatDoor.look (mvAll L a b (innerL L a)) q=some n→(q=b∧Go.Proofs.YtahkcemdbfjilaaGreatDoor.look L a=some n)∨(∃r,q=b++47 :: r∧Go.Proofs.YtahkcemdbfjilaaGreatDoor.look L (a++47 :: r)=some n)∨(q≠b∧q≠a∧(∀r,q≠a++47 :: r)∧(∀r,q≠b++47 :: r)∧Go.Proofs.YtahkcemdbfjilaaGreatDoor.look L q=some n):=by
  intro q n hq;rw [hL] at hq;split at hq
  · exact .inl ⟨‹_›,hq⟩
  · split at hq
    · rename_i c
      obtain ⟨r,e,hl⟩:=c;rw [e,hd] at hq;exact .inr (.inl ⟨r,e,hq⟩)
    · split at hq
      · cases hq
      · rename_i c0 c1 c2
        refine .inr (.inr ⟨c0,fun k=>c2 (.inl k),fun r k=>c2 (.inr ⟨r,k⟩),fun r k=>?_,hq⟩)
        rw [k,h.empty] at hq;cases hq
 have hB:∀q,q≠b→q≠a→(∀r,q≠a++47 :: r)→(∀r,q≠b++47 :: r)→Go.Proofs.YtahkcemdbfjilaaGreatDoor.look (mvAll L a b (innerL L a)) q=Go.Proofs.YtahkcemdbfjilaaGreatDoor.look L q:=by
  intro q h1 h2 h3 h4;rw [hL,if_neg h1,if_neg (fun ⟨r,k,_⟩=>h4 r k),if_neg (fun k=>by rcases k with k | ⟨r,k⟩;exact h2 k;exact h3 r k)]
 have hBr:∀r,(Go.Proofs.YtahkcemdbfjilaaGreatDoor.look L (a++47 :: r)).isSome→Go.Proofs.YtahkcemdbfjilaaGreatDoor.look (mvAll L a b (innerL L a)) (b++47 :: r)=Go.Proofs.YtahkcemdbfjilaaGreatDoor.look L (a++47 :: r):=by
  intro r hr;rw [hL,if_neg (hnb r),if_pos ⟨r,rfl,hr⟩,hd]
 have hB0:Go.Proofs.YtahkcemdbfjilaaGreatDoor.look (mvAll L a b (innerL L a)) b=Go.Proofs.YtahkcemdbfjilaaGreatDoor.look L a:=by rw [hL,if_pos rfl]
 -- a directory that is none of those that moved
 have hdir:∀d,kindP L d=2→d≠a→(∀r,d≠a++47 :: r)→kindP (mvAll L a b (innerL L a)) d=2:=by
  intro d hk h1 h2;by_cases h0:d=[]
  · rw [h0];rfl
  · rw [kindP_look h0 h0 (hB d (fun e=>h.nd (e▸hk)) h1 h2 (fun r e=>by have:=kindP_some h0 hk;rw [e,h.empty] at this;cases this))];exact hk
 refine ⟨h.srt _,?_,?_,?_,?_⟩
 · intro q hq
   obtain ⟨n,hq⟩:=Option.isSome_iff_exists.1 hq;rcases hcase q n hq with ⟨e,_⟩ | ⟨r,e,hl⟩ | ⟨_,_,_,_,hl⟩
   · rw [e];exact h.mb
   · rw [e];exact hfar r (by rw [hl];rfl)
   · exact h.wft.may q (by rw [hl];rfl)
 · intro q n hq
   rcases hcase q n hq with ⟨_,hl⟩ | ⟨r,_,hl⟩ | ⟨_,_,_,_,hl⟩<;>exact h.wft.kind _ n hl
 · intro q hq
   obtain ⟨n,hq⟩:=Option.isSome_iff_exists.1 hq;rcases hcase q n hq with ⟨e,_⟩ | ⟨r,e,hl⟩ | ⟨h1,h2,h3,h4,hl⟩
   · subst e
     refine hdir _ (home_dir h.home) ?_ ?_
     · intro k
       rcases may_split h.mb with ⟨k2,_⟩ | ⟨_,k2,_⟩
       · exact may_ne h.ma (k.symm.trans k2)
       · rw [k] at k2;exact hA.l _ k2
     · intro r k
       rcases may_split h.mb with ⟨k2,_⟩ | ⟨_,k2,_⟩
       · rw [k2] at k;have:=congrArg List.length k;simp at this
       · rw [k] at k2;exact hA.l (r++47 :: lastP q) (k2.trans (by simp))
   · subst e
     have hp:=h.wft.par _ (show (Go.Proofs.YtahkcemdbfjilaaGreatDoor.look L (a++47 :: r)).isSome by rw [hl];rfl)
     rw [ahead_behind] at hp ⊢;split at hp
     · rename_i hm
       rw [if_pos hm];have hs:=kindP_some (by simp) hp
       rw [kindP_look (by simp) (by simp) (hBr _ hs)];exact hp
     · rename_i hm
       rw [if_neg hm,kindP_look (may_ne h.mb) (may_ne h.ma) hB0];exact hp
   · have hp:=h.wft.par q (by rw [hl];rfl)
     have hs:=h.wft.may q (by rw [hl];rfl)
     refine hdir _ hp ?_ ?_
     · intro k
       rcases may_split hs with ⟨k2,_⟩ | ⟨_,k2,_⟩
       · exact may_ne h.ma (k.symm.trans k2)
       · rw [k] at k2;exact h3 _ k2
     · intro r k
       rcases may_split hs with ⟨k2,_⟩ | ⟨_,k2,_⟩
       · rw [k2] at k;have:=congrArg List.length k;simp at this
       · rw [k] at k2;exact h3 (r++47 :: lastP q) (k2.trans (by simp))
 · have:=h.used (List.Perm.refl _);have:=h.wft.used;omega
theorem step_wft {room:Nat} {L:Tr} (h:WFT room L) (x:Eff):WFT room (stepE room L x).2:=by
 cases x with
 | write p d t =>
  simp only [stepE];split
  · rename_i hm
    split
    · split
      · rename_i hh
        split
        · exact put_wft h hm (home_dir hh) (taken_not hm ‹_›) (.inl rfl)
        · exact h
      · exact h
    · exact h
  · exact h
 | append p d =>
  simp only [stepE];split
  · rename_i hm
    split
    · rename_i n hl
      split
      · have hp:=h.par p (by rw [hl];rfl)
        exact put_wft h hm hp (taken_not hm ‹_›) (h.kind p n hl)
      · exact h
    · exact h
  · exact h
 | mkdir p =>
  simp only [stepE];split
  · exact add_wft h ‹_› (.inr (.inl rfl))
  · exact h
 | link p g t =>
  simp only [stepE];split
  · rename_i hm
    split
    · exact add_wft h hm (.inr (.inr rfl))
    · exact h
  · exact h
 | rename a b =>
  simp only [stepE];split
  · rename_i hm
    simp only [Bool.and_eq_true] at hm;split
    · exact h
    · rename_i hw
      split
      · rename_i hs
        split
        · rename_i hh
          split
          · exact h
          · rename_i hk
            split
            · exact Moves.stays ⟨h,hm.1,hm.2,fun e=>hw (.inl e),by simpa using fun e=>hw (.inr e),hs,hh,fun e=>hk (.inl e),fun e=>hk (.inr e)⟩ ‹_›
            · exact h
        · exact h
      · exact h
  · exact h
 | remove p =>
  simp only [stepE];split
  · rename_i hm
    split
    · split
      · exact wft_del h ‹_› (may_ne hm)
      · exact h
    · exact h
  · exact h
end Go.Proofs.YtahkcemdbfjilaaGreatDoor
namespace Go.Proofs.YtahkcemdbfjilaaGreatDoor
def cutE:Eff→Nat→Eff
 | .write p d t,n=>.write p (d.take n) t
 | .append p d,n=>.append p (d.take n)
 | x,_=>x
def dataE:Eff→Nat
 | .write _ d _=>d.length
 | .append _ d=>d.length
 | _=>0
theorem cutE_all (x:Eff) (n:Nat) (h:dataE x≤n):cutE x n=x:=by
 cases x<;>simp only [cutE,dataE] at*<;> rw [List.take_of_length_le h]
structure Mo where
 now:Tr
 last:Tr
 since:List Eff
 fuse:Int
 room:Nat
def burnF (f:Int):Int:=if 0 < f then f - 1 else f
def doM (M:Mo) (x:Eff):Int × Mo :=
 if M.fuse=0 then (20,M) else if (stepE M.room M.now x).1=0 then (0,⟨(stepE M.room M.now x).2,M.last,M.since++[x],burnF M.fuse,M.room⟩) else ((stepE M.room M.now x).1,M)
def newM (room:Nat):Mo:=⟨[],[],[],-1,room⟩
def replay (room:Nat) (L:Tr) (xs:List Eff):Tr:=xs.foldl (fun T x=>(stepE room T x).2) L
structure Good (M:Mo):Prop where
 w1:WFT M.room M.now
 w2:WFT M.room M.last
 re:replay M.room M.last M.since=M.now
 f0:-1≤M.fuse
 f1:M.fuse≤9223372036854775807
theorem step_err {room:Nat} {L:Tr} (x:Eff) (h:(stepE room L x).1≠0):(stepE room L x).2=L:=by
 cases x<;>simp only [stepE,addE,putE] at*<;> (repeat' split)<;>simp_all
theorem Good.new (room:Nat):Good (newM room):=⟨WFT.nil _,WFT.nil _,rfl,(by show (-1:Int)≤-1;omega),(by show (-1:Int)≤_;omega)⟩
theorem burn_le {f:Int} (h0:-1≤f) (h1:f≤9223372036854775807):-1≤burnF f∧burnF f≤9223372036854775807:=by unfold burnF;split<;>omega
theorem Good.do {M:Mo} (h:Good M) (x:Eff):Good (doM M x).2:=by
 unfold doM;split
 · exact h
 · split
   · have hb:=burn_le h.f0 h.f1
     exact ⟨step_wft h.w1 x,h.w2,by show replay _ _ (_++[x])=_;unfold replay;rw [List.foldl_append];show (stepE _ (replay _ _ _) x).2=_;rw [h.re],hb.1,hb.2⟩
   · exact h
end Go.Proofs.YtahkcemdbfjilaaGreatDoor
