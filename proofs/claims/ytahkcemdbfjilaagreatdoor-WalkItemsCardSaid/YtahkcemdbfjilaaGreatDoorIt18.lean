/- Several texts in one. Conditions: those said at each. -/
import Derived.Test.YtahkcemdbfjilaaGreatDoorIt14
set_option linter.unusedSimpArgs false
set_option linter.unusedVariables false
set_option maxRecDepth 100000
namespace Go.Proofs.YtahkcemdbfjilaaGreatDoor.Glob
open Go.RowKit
def pre (p s:By):Bool:=p.isPrefixOf s
theorem pre_len {p s:By} (h:pre p s=true):p.length≤s.length:=by
 unfold pre at h;exact (List.isPrefixOf_iff_prefix.1 h).length_le
theorem pre_take (p s:By):pre p s=(s.take p.length == p):=by
 unfold pre;rw [Bool.eq_iff_iff,List.isPrefixOf_iff_prefix,beq_iff_eq,List.prefix_iff_eq_take];exact ⟨fun h=>h.symm,fun h=>h.symm⟩
abbrev Rg:=UInt8 × UInt8
inductive El where
 | all | part | one
 | set (neg:Bool) (rs:List Rg)
 | byt (c:UInt8)
def other (c:UInt8):UInt8:=if (97≤c.toNat∧c.toNat≤122)∨(65≤c.toNat∧c.toNat≤90) then c ^^^ 32 else c
def hasR (r:Rg) (c:UInt8):Bool:=decide (r.1.toNat≤c.toNat)&&decide (c.toNat≤r.2.toNat)
def inF (fold:Bool) (rs:List Rg) (c:UInt8):Bool:=rs.any fun r=>hasR r c||fold&&hasR r (other c)
def holdsE (fold:Bool):El→UInt8→Bool
 | .all,_=>true
 | .part,c=>!(c == 47)
 | .one,c=>!(c == 47)
 | .set neg rs,c=>!(c == 47)&&(if neg then !inF fold rs c else inF fold rs c)
 | .byt x,c=>inF fold [(x,x)] c
def El.many:El→Bool
 | .all=>true
 | .part=>true
 | _=>false
def cbL (s:By):Option (UInt8 × By) :=
 let e:=pre [92] s
 let t:=if e then s.drop 1 else s
 if t.length=0 then none else if e&&(at8 t 0 == 47) then none else some (at8 t 0,t.drop 1)
theorem cbL_len {s:By} {c:UInt8} {r:By} (h:cbL s=some (c,r)):r.length < s.length:=by
 unfold cbL at h;simp only at h;have h3:(if pre [92] s=true then s.drop 1 else s).length≤s.length:=by split<;>simp
 generalize (if pre [92] s=true then s.drop 1 else s)=t at h h3
 split at h
 · cases h
 · rename_i h1
   split at h
   · cases h
   · simp only [Option.some.injEq,Prod.mk.injEq] at h
     rw [←h.2,List.length_drop];have:t.length≠0:=fun e=>h1 e
     omega
def spanL (s:By):Option (Rg × By) :=
 match cbL s with
 | none=>none
 | some (lo,r) =>
  if decide (1 < r.length)&&(at8 r 0 == 45)&&!(at8 r 1 == 93) then
   match cbL (r.drop 1) with
   | none=>none
   | some (hi,r2)=>if decide (lo.toNat≤hi.toNat)&&!(lo == 47)&&!(hi == 47) then some ((lo,hi),r2) else none
  else if !(lo == 47) then some ((lo,lo),r) else none
theorem spanL_len {s:By} {c:Rg} {r:By} (h:spanL s=some (c,r)):r.length < s.length:=by
 unfold spanL at h;split at h
 · cases h
 · rename_i lo r1 h1
   have l1:=cbL_len h1;split at h
   · split at h
     · cases h
     · rename_i hi r2 h2
       have l2:=cbL_len h2;rw [List.length_drop] at l2;split at h
       · simp only [Option.some.injEq,Prod.mk.injEq] at h;rw [←h.2];omega
       · cases h
   · split at h
     · simp only [Option.some.injEq,Prod.mk.injEq] at h;rw [←h.2];omega
     · cases h
def clsF:Nat→By→List Rg→Option (List Rg × By)
 | 0,_,_=>none
 | n+1,s,acc=>if pre [93] s then (if acc.length=0 then none else some (acc,s.drop 1)) else match spanL s with
  | none=>none
  | some (r,t)=>clsF n t (acc++[r])
theorem clsF_fuel (n:Nat):∀m s acc,s.length≤n→s.length≤m→clsF n s acc=clsF m s acc:=by
 induction n with
 | zero =>
  intro m s acc h1 h2;obtain rfl:=List.length_eq_zero_iff.1 (Nat.le_zero.1 h1)
  cases m<;>rfl
 | succ n ih =>
  intro m s acc h1 h2
  cases m with
  | zero=>obtain rfl:=List.length_eq_zero_iff.1 (Nat.le_zero.1 h2);rfl
  | succ m =>
   unfold clsF;split
   · rfl
   · cases h:spanL s with
     | none=>rfl
     | some x=>obtain ⟨r,t⟩:=x;have:=spanL_len h;exact ih m t _ (by omega) (by omega)
def cls (s:By) (acc:List Rg):Option (List Rg × By):=clsF s.length s acc
theorem cls_eq (s:By) (acc:List Rg):cls s acc=if pre [93] s then (if acc.length=0 then none else some (acc,s.drop 1)) else match spanL s with
 | none=>none
 | some (r,t)=>cls t (acc++[r]):=by
 unfold cls
 cases s with
 | nil=>rfl
 | cons x s =>
  rw [List.length_cons,clsF];split
  · rfl
  · cases h:spanL (x :: s) with
    | none=>rfl
    | some y=>obtain ⟨r,t⟩:=y;have:=spanL_len h;simp only [List.length_cons] at this;exact clsF_fuel _ _ _ _ (by omega) (Nat.le_refl _)
theorem clsF_len (n:Nat):∀s acc rs r,clsF n s acc=some (rs,r)→r.length < s.length∧rs.length≤acc.length+s.length:=by
 induction n with
 | zero=>intro s acc rs r h;cases h
 | succ n ih =>
  intro s acc rs r h;unfold clsF at h;split at h
  · rename_i hp
    have:=pre_len hp;split at h
    · cases h
    · simp only [Option.some.injEq,Prod.mk.injEq] at h
      rw [←h.2,←h.1,List.length_drop];simp only [List.length_singleton] at this;omega
  · cases hs:spanL s with
    | none=>rw [hs] at h;cases h
    | some y =>
     obtain ⟨x,t⟩:=y;rw [hs] at h;have l1:=spanL_len hs;have l2:=ih t _ rs r h;rw [List.length_append,List.length_singleton] at l2;omega
def elemL (s:By):Option (El × By) :=
 if pre [42,42] s then some (.all,s.drop 2)
 else if at8 s 0 == 42 then some (.part,s.drop 1)
 else if at8 s 0 == 63 then some (.one,s.drop 1)
 else if at8 s 0 == 91 then
  (match cls (if pre [33] (s.drop 1) then (s.drop 1).drop 1 else s.drop 1) [] with
  | none=>none
  | some (rs,r)=>some (.set (pre [33] (s.drop 1)) rs,r))
 else match cbL s with
  | none=>none
  | some (c,r)=>some (.byt c,r)
theorem elemL_len {s:By} {x:El} {r:By} (hs:s≠[]) (h:elemL s=some (x,r)):r.length < s.length:=by
 have h0:0 < s.length:=Nat.pos_of_ne_zero fun e=>hs (List.length_eq_zero_iff.1 e)
 unfold elemL at h;split at h
 · simp only [Option.some.injEq,Prod.mk.injEq] at h;rw [←h.2,List.length_drop];omega
 split at h
 · simp only [Option.some.injEq,Prod.mk.injEq] at h;rw [←h.2,List.length_drop];omega
 split at h
 · simp only [Option.some.injEq,Prod.mk.injEq] at h;rw [←h.2,List.length_drop];omega
 split at h
 · split at h
   · cases h
   · rename_i rs r1 hc
     simp only [Option.some.injEq,Prod.mk.injEq] at h;have:=(clsF_len _ _ _ _ _ hc).1;have h3:(if pre [33] (s.drop 1)=true then (s.drop 1).drop 1 else s.drop 1).length≤s.length:=by split<;>simp<;>omega
     rw [←h.2];omega
 · split at h
   · cases h
   · rename_i c r1 hc
     simp only [Option.some.injEq,Prod.mk.injEq] at h;have:=cbL_len hc;rw [←h.2];omega
def elemsF:Nat→By→List El→Option (List El)
 | 0,s,acc=>if s.length=0 then (if acc.length=0 then none else some acc) else none
 | n+1,s,acc=>if s.length=0 then (if acc.length=0 then none else some acc) else match elemL s with
  | none=>none
  | some (e,t)=>elemsF n t (acc++[e])
theorem elemsF_fuel (n:Nat):∀m s acc,s.length≤n→s.length≤m→elemsF n s acc=elemsF m s acc:=by
 induction n with
 | zero =>
  intro m s acc h1 h2;obtain rfl:=List.length_eq_zero_iff.1 (Nat.le_zero.1 h1)
  cases m<;>rfl
 | succ n ih =>
  intro m s acc h1 h2
  cases m with
  | zero=>obtain rfl:=List.length_eq_zero_iff.1 (Nat.le_zero.1 h2);rfl
  | succ m =>
   unfold elemsF;split
   · rfl
   · rename_i h0
     cases h:elemL s with
     | none=>rfl
     | some x=>obtain ⟨r,t⟩:=x;have:=elemL_len (by rintro rfl;exact h0 rfl) h;exact ih m t _ (by omega) (by omega)
def elems (s:By) (acc:List El):Option (List El):=elemsF s.length s acc
theorem elems_eq (s:By) (acc:List El):elems s acc=if s.length=0 then (if acc.length=0 then none else some acc) else match elemL s with
 | none=>none
 | some (e,t)=>elems t (acc++[e]):=by
 unfold elems
 cases s with
 | nil=>rfl
 | cons x s =>
  rw [List.length_cons,elemsF,List.length_cons];split
  · rename_i h0;simp at h0
  · skip
    cases h:elemL (x :: s) with
    | none=>rfl
    | some y=>obtain ⟨r,t⟩:=y;have:=elemL_len (by simp) h;simp only [List.length_cons] at this;exact elemsF_fuel _ _ _ _ (by omega) (Nat.le_refl _)
theorem elemsF_len (n:Nat):∀s acc l,elemsF n s acc=some l→l.length≤acc.length+s.length∧0 < l.length:=by
 induction n with
 | zero =>
  intro s acc l h;unfold elemsF at h;split at h
  · split at h
    · cases h
    · simp only [Option.some.injEq] at h;subst h;omega
  · cases h
 | succ n ih =>
  intro s acc l h;unfold elemsF at h;split at h
  · split at h
    · cases h
    · simp only [Option.some.injEq] at h;subst h;omega
  · rename_i h0
    cases hs:elemL s with
    | none=>rw [hs] at h;cases h
    | some y =>
     obtain ⟨x,t⟩:=y;rw [hs] at h;have l1:=elemL_len (by rintro rfl;exact h0 rfl) hs
     have l2:=ih t _ l h;rw [List.length_append,List.length_singleton] at l2;omega
def cutM (s:By):Nat × By:=if pre [33] s then (1,s.drop 1) else if pre [40,63,105,41] s then (2,s.drop 4) else if pre [40,63,100,41] s then (4,s.drop 4) else (0,s)
theorem cutM_len {s:By} (h:(cutM s).1≠0):(cutM s).2.length < s.length:=by
 unfold cutM at h ⊢;split
 · rename_i hp;have:=pre_len hp;simp at this ⊢;omega
 · split
   · rename_i hp;have:=pre_len hp;simp at this ⊢;omega
   · split
     · rename_i hp;have:=pre_len hp;simp at this ⊢;omega
     · rename_i h1 h2 h3;simp [h1,h2,h3] at h
def marksF:Nat→Nat→By→Option (Nat × By)
 | 0,m,s=>some (m,s)
 | n+1,m,s=>if (cutM s).1=0 then some (m,s) else if m &&& (cutM s).1≠0 then none else marksF n (m ||| (cutM s).1) (cutM s).2
theorem marksF_fuel (n:Nat):∀k m s,s.length≤n→s.length≤k→marksF n m s=marksF k m s:=by
 induction n with
 | zero =>
  intro k m s h1 h2;obtain rfl:=List.length_eq_zero_iff.1 (Nat.le_zero.1 h1)
  cases k<;>rfl
 | succ n ih =>
  intro k m s h1 h2
  cases k with
  | zero=>obtain rfl:=List.length_eq_zero_iff.1 (Nat.le_zero.1 h2);rfl
  | succ k =>
   unfold marksF;split
   · rfl
   · rename_i h0
     split
     · rfl
     · have:=cutM_len h0;exact ih k _ _ (by omega) (by omega)
def marks (m:Nat) (s:By):Option (Nat × By):=marksF s.length m s
theorem marks_eq (m:Nat) (s:By):marks m s=if (cutM s).1=0 then some (m,s) else if m &&& (cutM s).1≠0 then none else marks (m ||| (cutM s).1) (cutM s).2:=by
 unfold marks
 cases s with
 | nil=>rfl
 | cons x s =>
  rw [List.length_cons,marksF];split
  · rfl
  · rename_i h0
    split
    · rfl
    · have:=cutM_len h0;simp only [List.length_cons] at this;exact marksF_fuel _ _ _ _ (by omega) (Nat.le_refl _)
theorem marksF_len (n:Nat):∀m s k t,marksF n m s=some (k,t)→t.length≤s.length:=by
 induction n with
 | zero=>intro m s k t h;simp only [marksF,Option.some.injEq,Prod.mk.injEq] at h;rw [←h.2];exact Nat.le_refl _
 | succ n ih =>
  intro m s k t h;unfold marksF at h;split at h
  · simp only [Option.some.injEq,Prod.mk.injEq] at h;rw [←h.2];exact Nat.le_refl _
  · rename_i h0
    split at h
    · cases h
    · have:=ih _ _ _ _ h;have:=cutM_len h0;omega
structure Pt where
 m:Nat
 rooted:Bool
 els:List El
def parseL (s:By):Option Pt :=
 match marks 0 s with
 | none=>none
 | some (m,t)=>match elems (if pre [47] t then t.drop 1 else t) [] with
  | none=>none
  | some l=>some ⟨m,pre [47] t,l⟩
def Pt.folded (p:Pt):Bool:=p.m &&& 2 != 0
abbrev H:=List ((UInt8→Bool) × Bool)
def hsOf (fold:Bool) (l:List El):H:=l.map fun e=>(holdsE fold e,e.many)
def Pt.hs (p:Pt):H:=hsOf p.folded p.els
theorem hsOf_len (fold:Bool) (l:List El):(hsOf fold l).length=l.length:=by simp [hsOf]
def hold (hs:H) (k:Nat) (c:UInt8):Bool:=(hs.getD k (fun _=>false,false)).1 c
def many (hs:H) (k:Nat):Bool:=(hs.getD k (fun _=>false,false)).2
theorem many_ge {hs:H} {k:Nat} (h:hs.length≤k):many hs k=false:=by simp [many,List.getD,List.getElem?_eq_none h]
abbrev Pl:=Nat→Bool
def skipA (hs:H) (A:Pl):Pl
 | 0=>A 0
 | k+1=>A (k+1)||(skipA hs A k&&many hs k)
def stepA (hs:H) (A:Pl) (c:UInt8):Pl:=fun k=>(decide (k < hs.length)&&many hs k&&A k&&hold hs k c)||(decide (0 < k∧k≤hs.length)&&!many hs (k - 1)&&A (k - 1)&&hold hs (k - 1) c)
def startB (rooted:Bool) (path:By) (i:Nat):Bool:=i == 0||((at8 path (i - 1) == 47)&&!rooted)
def endB (path:By) (i:Nat):Bool:=i == path.length||(at8 path i == 47)
def startA (b:Bool) (A:Pl):Pl:=fun k=>(b&&k == 0)||A k
def preA (rooted:Bool) (hs:H) (path:By):Nat→Pl
 | 0=>fun _=>false
 | i+1=>stepA hs (skipA hs (startA (startB rooted path i) (preA rooted hs path i))) (at8 path i)
def atA (rooted:Bool) (hs:H) (path:By) (i:Nat):Pl:=skipA hs (startA (startB rooted path i) (preA rooted hs path i))
def mB (rooted:Bool) (hs:H) (path:By):Bool:=decide (path.length≤160)&&(List.range (path.length+1)).any fun i=>atA rooted hs path i hs.length&&endB path i
def plv (A:Pl):Array Value:=((List.range 129).map fun k=>Value.bool (A k)).toArray
theorem plv_size (A:Pl):(plv A).size=129:=by simp [plv]
theorem plv_get (A:Pl) (j:Nat) (h:j < 129):(plv A)[j]? = some (.bool (A j)):=by
 simp [plv,List.getElem?_range h]
theorem plv_one (A:Pl):(plv A).all (·.oneCell')=true:=by simp [plv,Value.oneCell']
theorem plv_set (A:Pl) (j:Nat):(plv A).setIfInBounds j (.bool true)=plv (fun k=>A k||k == j):=by
 apply Array.ext
 · simp [plv]
 · intro i h1 h2
   have hi:i < 129:=by simpa [plv] using h2
   by_cases e:j=i
   · subst e;simp [plv]
   · simp [plv,e,Ne.symm e]
theorem toList_ba (l:By):(ba l).toList=l:=ByteArray.toList_eq (ba l)
end Go.Proofs.YtahkcemdbfjilaaGreatDoor.Glob
namespace Go.Proofs.YtahkcemdbfjilaaGreatDoor.Glob
open Go.RowKit
theorem slpre_any (s p:By) (w:World) :
 Calls Tryz.prog 124 #[.string (ba s),.string (ba p)] w fun e w'=>e=.returned (.bool (pre p s))∧w=w':=by
 have z1:=ba_size s;have z2:=ba_size p;have HP:=hid (pre_take p s);by_cases h:p.length≤s.length
 · go_enter Tryz.func124,Tryz.ntmps124
   go_wp2;go_ret;exact ⟨ret_bool (by rw [HP.out,toList_ba,ba_take,toList_ba]),rfl⟩
 · go_enter Tryz.func124,Tryz.ntmps124
   go_wp2;go_ret;refine ⟨ret_bool ?_,rfl⟩
   cases hb:pre p s with
   | false=>rfl
   | true=>exact absurd (pre_len hb) h
theorem pre_any (s p:By) (w:World) :
 Calls Tryz.prog 75 #[.string (ba s),.string (ba p)] w fun e w'=>e=.returned (.bool (pre p s))∧w=w':=by
 go_enter Tryz.func75,Tryz.ntmps75
 go_wp2_with (go_at_call 124;refine (slpre_any _ _ _).mono ?_;rintro e1 w1 ⟨rfl,rfl⟩)
 go_ret;exact ⟨rfl,rfl⟩
def cutP (p s:By):By:=if pre p s then s.drop p.length else s
theorem cutP_len (p s:By):(cutP p s).length≤s.length:=by unfold cutP;split<;>simp
theorem slcut_any (s p:By) (w:World) :
 Calls Tryz.prog 92 #[.string (ba s),.string (ba p)] w fun e w'=>e=.returned (.tuple #[.string (ba (cutP p s)),.bool (pre p s)])∧w=w':=by
 have z1:=ba_size s;have z2:=ba_size p;have hc:=slpre_any s p w
 cases hb:pre p s with
 | false =>
  rw [hb] at hc;go_enter Tryz.func92,Tryz.ntmps92
  go_wp2_with (go_at_call 124;refine hc.mono ?_;rintro e1 w1 ⟨rfl,rfl⟩)
  go_ret2;refine ⟨?_,rfl⟩;unfold cutP;rw [hb];rfl
 | true =>
  rw [hb] at hc;have hl:=pre_len hb;go_enter Tryz.func92,Tryz.ntmps92
  go_wp2_with (go_at_call 124;refine hc.mono ?_;rintro e1 w1 ⟨rfl,rfl⟩)
  go_ret2;refine ⟨?_,rfl⟩;unfold cutP;rw [hb,if_pos rfl,←ba_drop];rfl
theorem cut_any (s p:By) (w:World) :
 Calls Tryz.prog 47 #[.string (ba s),.string (ba p)] w fun e w'=>e=.returned (.tuple #[.string (ba (cutP p s)),.bool (pre p s)])∧w=w':=by
 go_enter Tryz.func47,Tryz.ntmps47
 go_wp2_with (go_at_call 92;refine (slcut_any _ _ _).mono ?_;rintro e1 w1 ⟨rfl,rfl⟩)
 go_ret2;exact ⟨rfl,rfl⟩
def cbV (x:Option (UInt8 × By)):Value:=match x with
 | none=>.tuple #[.int .u8 0,.string ⟨#[]⟩,.bool false]
 | some (c,r)=>.tuple #[.int .u8 (b8 c),.string (ba r),.bool true]
theorem idx0 (t:By) (h:0 < t.length) (w:World):(Instr.index 9 (.string (ba t)) (.int .i64 0)).run Tryz.prog w=.ok (.int .u8 (b8 (at8 t 0))) w:=index_str t 0 h w
theorem idx1 (t:By) (h:1 < t.length) (w:World):(Instr.index 9 (.string (ba t)) (.int .i64 1)).run Tryz.prog w=.ok (.int .u8 (b8 (at8 t 1))) w:=index_str t 1 h w
theorem cb_any (s:By) (w:World) :
 Calls Tryz.prog 220 #[.string (ba s)] w fun e w'=>e=.returned (cbV (cbL s))∧∃n,w'=w.drewN n:=by
 obtain ⟨t,ht⟩:∃t,t=cutP [92] s:=⟨_,rfl⟩;obtain ⟨b,hb⟩:∃b,pre [92] s=b:=⟨_,rfl⟩;have HE:Hid (cbL s=if t.length=0 then none else if b&&(at8 t 0 == 47) then none else some (at8 t 0,t.drop 1)):=by
  subst hb;subst ht;rfl
 have hc:∀W,Calls Tryz.prog 47 #[.string (ba s),.string ⟨#[92]⟩] W fun e w'=>e=.returned (.tuple #[.string (ba t),.bool b])∧W=w':=by
  intro W;have:=cut_any s [92] W;rw [←ht,hb] at this;exact this
 clear ht hb;have z:=ba_size t;have zt:=toList_ba t;by_cases h0:t.length=0
 · obtain rfl:=List.length_eq_zero_iff.1 h0
   go_enter Tryz.func220,Tryz.ntmps220
   go_wp2_with (go_at_call 47;refine (hc _).mono ?_;rintro e1 w1 ⟨rfl,rfl⟩)
   refine bodyPost_ret (results_tmp3 rfl _ _ _) rfl ⟨?_,0,rfl⟩;rw [HE.out];rfl
 · have i0:=idx0 t (by omega)
   have e0:(t == [])=false:=by cases t with | nil=>exact absurd rfl h0 | cons _ _=>rfl
   have H0:=hid h0;have HD:=hid (ba_drop t 1);have q7:=b8_eq (at8 t 0) 47;rw [show b8 47=47 from rfl] at q7
   generalize at8 t 0=x at HE i0 q7;obtain ⟨c,hc7⟩:∃c,(x == 47)=c:=⟨_,rfl⟩;rw [hc7] at HE q7
   cases b with
   | false =>
    go_enter Tryz.func220,Tryz.ntmps220
    go_wp2_with (go_at_call 47;refine (hc _).mono ?_;rintro e1 w1 ⟨rfl,rfl⟩)
    go_quiet (fail)
    go_wp2;refine bodyPost_ret (results_tmp3 rfl _ _ _) rfl ⟨?_,_,rfl⟩;rw [HE.out,if_neg H0.out];simp [cbV,HD.out]
   | true =>
    cases c with
    | true =>
     go_enter Tryz.func220,Tryz.ntmps220
     go_wp2_with (go_at_call 47;refine (hc _).mono ?_;rintro e1 w1 ⟨rfl,rfl⟩)
     refine bodyPost_ret (results_tmp3 rfl _ _ _) rfl ⟨?_,0,rfl⟩;rw [HE.out,if_neg H0.out];rfl
    | false =>
     go_enter Tryz.func220,Tryz.ntmps220
     go_wp2_with (go_at_call 47;refine (hc _).mono ?_;rintro e1 w1 ⟨rfl,rfl⟩)
     go_quiet (fail)
     go_wp2;refine bodyPost_ret (results_tmp3 rfl _ _ _) rfl ⟨?_,_,rfl⟩;rw [HE.out,if_neg H0.out];simp [cbV,HD.out]
end Go.Proofs.YtahkcemdbfjilaaGreatDoor.Glob
namespace Go.Proofs.YtahkcemdbfjilaaGreatDoor.Glob
open Go.RowKit
def SpanIs (s:By) (e:Ending):Prop:=∃lo hi r ok,e=.returned (.tuple #[.agg #[.int .u8 (b8 lo),.int .u8 (b8 hi)],.string (ba r),.bool ok])∧spanL s=if ok then some ((lo,hi),r) else none
theorem results_ctt {fn:Func} {p t u:Tmp} {ty:TypeId} (h:fn.results=#[.cell p ty,.tmp t,.tmp u]) (tmps:Array Value) (P:Program) (w:World) (g:Nat) (cs:Array Value) (b c:Value)
 (hl:(loadVar ty ⟨g,0,none⟩).run P w=.ok (.agg cs) w) (hp:tmps.getD p undef=.pointer (some ⟨g,0,none⟩)) (hb:tmps.getD t undef=b) (hc:tmps.getD u undef=c) :
 (results fn tmps).run P w=.ok (.tuple #[.agg cs,b,c]) w:=by
 subst hb;subst hc;simp only [Array.getD_eq_getD_getElem?] at hp ⊢;simp [results,h,hp,asAddr,hl]
theorem iSpan:(Tryz.prog.info? 281).map (·.size)=some 2:=by kernel_rfl
theorem load_span {w:World} {g:Nat} {a b:Value} (k:Has w g 281 #[a,b]):(loadVar 281 ⟨g,0,none⟩).run Tryz.prog w=.ok (.agg #[a,b]) w :=
 run_loadVar_row (P:=Tryz.prog) w g 281 281 #[a,b] (0,0) _ k Tryz.underlying281 rfl iSpan
theorem le8 (x y:UInt8):decide (b8 x≤b8 y)=decide (x.toNat≤y.toNat):=by unfold b8;rw [decide_eq_decide];omega
theorem ne8 (x:UInt8) (k:UInt8):(b8 x != b8 k) = !(x == k):=by rw [bne,b8_eq]
set_option maxHeartbeats 1000000 in
theorem span_none (s:By) (h:cbL s=none) (w:World) :
 Calls Tryz.prog 254 #[.string (ba s)] w fun e w'=>SpanIs s e∧Below w.heap.size w w':=by
 have HS:Hid (spanL s=none):=by show _=_;unfold spanL;rw [h]
 have hc:∀W,Calls Tryz.prog 220 #[.string (ba s)] W fun e w'=>e=.returned (.tuple #[.int .u8 0,.string ⟨#[]⟩,.bool false])∧∃n,w'=W.drewN n:=by
  intro W;have:=cb_any s W;rw [h] at this;exact this
 clear h;go_enter Tryz.func254,Tryz.ntmps254
 go_wp2_with (go_at_call 220;refine (hc _).mono ?_;rintro e1 w1 ⟨rfl,n1,rfl⟩)
 exact bodyPost_ret (results_ctt rfl _ _ _ w.heap.size _ _ _ (load_span ((((Has.fresh w 281 _).drawn n1).put 0 _).put 1 _)) rfl rfl rfl) rfl
  ⟨⟨0,0,[],false,rfl,HS.out⟩,((((Below.refl _ _).alloc (Nat.le_refl _) _).drewG n1).setCell (Nat.le_refl _) _).setCell (Nat.le_refl _) _⟩
set_option maxHeartbeats 1000000 in
theorem span_st (s:By) (lo:UInt8) (r:By) (h:cbL s=some (lo,r)) (h1:¬1 < r.length) (h7:(lo == 47)=true) (w:World) :
 Calls Tryz.prog 254 #[.string (ba s)] w fun e w'=>SpanIs s e∧Below w.heap.size w w':=by
 have HS:Hid (spanL s=none):=by
  show _=_;unfold spanL;rw [h];simp only;rw [if_neg (by rw [decide_eq_false h1];simp)];rw [if_neg (by rw [h7];decide)]
 have hc:∀W,Calls Tryz.prog 220 #[.string (ba s)] W fun e w'=>e=.returned (.tuple #[.int .u8 (b8 lo),.string (ba r),.bool true])∧∃n,w'=W.drewN n:=by
  intro W;have:=cb_any s W;rw [h] at this;exact this
 have z:=ba_size r;have g1:¬((1:Int) < (r.length:Int)):=by omega
 have n7:(b8 lo != 47)=false:=by have:=ne8 lo 47;rw [h7] at this;exact this
 clear h h1 h7;go_enter Tryz.func254,Tryz.ntmps254
 go_wp2_with (fail)
 refine (hc _).mono ?_;rintro e1 w1 ⟨rfl,n1,rfl⟩;go_wp2;exact bodyPost_ret (results_ctt rfl _ _ _ w.heap.size _ _ _ (load_span ((((Has.fresh w 281 _).drawn n1).put 0 _).put 1 _)) rfl rfl rfl) rfl
  ⟨⟨lo,lo,r,false,rfl,HS.out⟩,((((Below.refl _ _).alloc (Nat.le_refl _) _).drewG n1).setCell (Nat.le_refl _) _).setCell (Nat.le_refl _) _⟩
set_option maxHeartbeats 1000000 in
theorem span_sf (s:By) (lo:UInt8) (r:By) (h:cbL s=some (lo,r)) (h1:¬1 < r.length) (h7:(lo == 47)=false) (w:World) :
 Calls Tryz.prog 254 #[.string (ba s)] w fun e w'=>SpanIs s e∧Below w.heap.size w w':=by
 have HS:Hid (spanL s=some ((lo,lo),r)):=by
  show _=_;unfold spanL;rw [h];simp only;rw [if_neg (by rw [decide_eq_false h1];simp)];rw [if_pos (by rw [h7];decide)]
 have hc:∀W,Calls Tryz.prog 220 #[.string (ba s)] W fun e w'=>e=.returned (.tuple #[.int .u8 (b8 lo),.string (ba r),.bool true])∧∃n,w'=W.drewN n:=by
  intro W;have:=cb_any s W;rw [h] at this;exact this
 have z:=ba_size r;have g1:¬((1:Int) < (r.length:Int)):=by omega
 have n7:(b8 lo != 47)=true:=by have:=ne8 lo 47;rw [h7] at this;exact this
 clear h h1 h7;go_enter Tryz.func254,Tryz.ntmps254
 go_wp2_with (fail)
 refine (hc _).mono ?_;rintro e1 w1 ⟨rfl,n1,rfl⟩;go_wp2;exact bodyPost_ret (results_ctt rfl _ _ _ w.heap.size _ _ _ (load_span ((((Has.fresh w 281 _).drawn n1).put 0 _).put 1 _)) rfl rfl rfl) rfl
  ⟨⟨lo,lo,r,true,rfl,HS.out⟩,((((Below.refl _ _).alloc (Nat.le_refl _) _).drewG n1).setCell (Nat.le_refl _) _).setCell (Nat.le_refl _) _⟩
set_option maxHeartbeats 1000000 in
theorem span_at (s:By) (lo:UInt8) (r:By) (h:cbL s=some (lo,r)) (h1:1 < r.length) (h2:(at8 r 0 == 45)=false) (h7:(lo == 47)=true) (w:World) :
 Calls Tryz.prog 254 #[.string (ba s)] w fun e w'=>SpanIs s e∧Below w.heap.size w w':=by
 have HS:Hid (spanL s=none):=by
  show _=_;unfold spanL;rw [h];simp only;rw [if_neg (by rw [h2,Bool.and_false];simp)];rw [if_neg (by rw [h7];decide)]
 have hc:∀W,Calls Tryz.prog 220 #[.string (ba s)] W fun e w'=>e=.returned (.tuple #[.int .u8 (b8 lo),.string (ba r),.bool true])∧∃n,w'=W.drewN n:=by
  intro W;have:=cb_any s W;rw [h] at this;exact this
 have z:=ba_size r;have g1:(1:Int) < (r.length:Int):=by omega
 have i0:=idx0 r (by omega)
 have q0:(b8 (at8 r 0) == 45)=false:=(b8_eq (at8 r 0) 45).trans h2;generalize at8 r 0=x0 at i0 q0;have n7:(b8 lo != 47)=false:=by have:=ne8 lo 47;rw [h7] at this;exact this
 clear h h1 h2 h7;go_enter Tryz.func254,Tryz.ntmps254
 go_wp2_with (fail)
 refine (hc _).mono ?_;rintro e1 w1 ⟨rfl,n1,rfl⟩;go_wp2;exact bodyPost_ret (results_ctt rfl _ _ _ w.heap.size _ _ _ (load_span ((((Has.fresh w 281 _).drawn n1).put 0 _).put 1 _)) rfl rfl rfl) rfl
  ⟨⟨lo,lo,r,false,rfl,HS.out⟩,((((Below.refl _ _).alloc (Nat.le_refl _) _).drewG n1).setCell (Nat.le_refl _) _).setCell (Nat.le_refl _) _⟩
set_option maxHeartbeats 1000000 in
theorem span_af (s:By) (lo:UInt8) (r:By) (h:cbL s=some (lo,r)) (h1:1 < r.length) (h2:(at8 r 0 == 45)=false) (h7:(lo == 47)=false) (w:World) :
 Calls Tryz.prog 254 #[.string (ba s)] w fun e w'=>SpanIs s e∧Below w.heap.size w w':=by
 have HS:Hid (spanL s=some ((lo,lo),r)):=by
  show _=_;unfold spanL;rw [h];simp only;rw [if_neg (by rw [h2,Bool.and_false];simp)];rw [if_pos (by rw [h7];decide)]
 have hc:∀W,Calls Tryz.prog 220 #[.string (ba s)] W fun e w'=>e=.returned (.tuple #[.int .u8 (b8 lo),.string (ba r),.bool true])∧∃n,w'=W.drewN n:=by
  intro W;have:=cb_any s W;rw [h] at this;exact this
 have z:=ba_size r;have g1:(1:Int) < (r.length:Int):=by omega
 have i0:=idx0 r (by omega)
 have q0:(b8 (at8 r 0) == 45)=false:=(b8_eq (at8 r 0) 45).trans h2;generalize at8 r 0=x0 at i0 q0;have n7:(b8 lo != 47)=true:=by have:=ne8 lo 47;rw [h7] at this;exact this
 clear h h1 h2 h7;go_enter Tryz.func254,Tryz.ntmps254
 go_wp2_with (fail)
 refine (hc _).mono ?_;rintro e1 w1 ⟨rfl,n1,rfl⟩;go_wp2;exact bodyPost_ret (results_ctt rfl _ _ _ w.heap.size _ _ _ (load_span ((((Has.fresh w 281 _).drawn n1).put 0 _).put 1 _)) rfl rfl rfl) rfl
  ⟨⟨lo,lo,r,true,rfl,HS.out⟩,((((Below.refl _ _).alloc (Nat.le_refl _) _).drewG n1).setCell (Nat.le_refl _) _).setCell (Nat.le_refl _) _⟩
set_option maxHeartbeats 1000000 in
theorem span_bt (s:By) (lo:UInt8) (r:By) (h:cbL s=some (lo,r)) (h1:1 < r.length) (h2:(at8 r 0 == 45)=true) (h3:(at8 r 1 == 93)=true) (h7:(lo == 47)=true) (w:World) :
 Calls Tryz.prog 254 #[.string (ba s)] w fun e w'=>SpanIs s e∧Below w.heap.size w w':=by
 have HS:Hid (spanL s=none):=by
  show _=_;unfold spanL;rw [h];simp only;rw [if_neg (by rw [h3,Bool.not_true,Bool.and_false];simp)];rw [if_neg (by rw [h7];decide)]
 have hc:∀W,Calls Tryz.prog 220 #[.string (ba s)] W fun e w'=>e=.returned (.tuple #[.int .u8 (b8 lo),.string (ba r),.bool true])∧∃n,w'=W.drewN n:=by
  intro W;have:=cb_any s W;rw [h] at this;exact this
 have z:=ba_size r;have g1:(1:Int) < (r.length:Int):=by omega
 have i0:=idx0 r (by omega)
 have i1:=idx1 r h1;have q0:(b8 (at8 r 0) == 45)=true:=(b8_eq (at8 r 0) 45).trans h2;have q1:(b8 (at8 r 1) != 93)=false:=by have:=ne8 (at8 r 1) 93;rw [h3] at this;exact this
 generalize at8 r 0=x0 at i0 q0 h2;generalize at8 r 1=x1 at i1 q1 h3;have n7:(b8 lo != 47)=false:=by have:=ne8 lo 47;rw [h7] at this;exact this
 clear h h2 h3 h7;go_enter Tryz.func254,Tryz.ntmps254
 go_wp2_with (fail)
 refine (hc _).mono ?_;rintro e1 w1 ⟨rfl,n1,rfl⟩;go_wp2;exact bodyPost_ret (results_ctt rfl _ _ _ w.heap.size _ _ _ (load_span ((((Has.fresh w 281 _).drawn n1).put 0 _).put 1 _)) rfl rfl rfl) rfl
  ⟨⟨lo,lo,r,false,rfl,HS.out⟩,((((Below.refl _ _).alloc (Nat.le_refl _) _).drewG n1).setCell (Nat.le_refl _) _).setCell (Nat.le_refl _) _⟩
set_option maxHeartbeats 1000000 in
theorem span_bf (s:By) (lo:UInt8) (r:By) (h:cbL s=some (lo,r)) (h1:1 < r.length) (h2:(at8 r 0 == 45)=true) (h3:(at8 r 1 == 93)=true) (h7:(lo == 47)=false) (w:World) :
 Calls Tryz.prog 254 #[.string (ba s)] w fun e w'=>SpanIs s e∧Below w.heap.size w w':=by
 have HS:Hid (spanL s=some ((lo,lo),r)):=by
  show _=_;unfold spanL;rw [h];simp only;rw [if_neg (by rw [h3,Bool.not_true,Bool.and_false];simp)];rw [if_pos (by rw [h7];decide)]
 have hc:∀W,Calls Tryz.prog 220 #[.string (ba s)] W fun e w'=>e=.returned (.tuple #[.int .u8 (b8 lo),.string (ba r),.bool true])∧∃n,w'=W.drewN n:=by
  intro W;have:=cb_any s W;rw [h] at this;exact this
 have z:=ba_size r;have g1:(1:Int) < (r.length:Int):=by omega
 have i0:=idx0 r (by omega)
 have i1:=idx1 r h1;have q0:(b8 (at8 r 0) == 45)=true:=(b8_eq (at8 r 0) 45).trans h2;have q1:(b8 (at8 r 1) != 93)=false:=by have:=ne8 (at8 r 1) 93;rw [h3] at this;exact this
 generalize at8 r 0=x0 at i0 q0 h2;generalize at8 r 1=x1 at i1 q1 h3;have n7:(b8 lo != 47)=true:=by have:=ne8 lo 47;rw [h7] at this;exact this
 clear h h2 h3 h7;go_enter Tryz.func254,Tryz.ntmps254
 go_wp2_with (fail)
 refine (hc _).mono ?_;rintro e1 w1 ⟨rfl,n1,rfl⟩;go_wp2;exact bodyPost_ret (results_ctt rfl _ _ _ w.heap.size _ _ _ (load_span ((((Has.fresh w 281 _).drawn n1).put 0 _).put 1 _)) rfl rfl rfl) rfl
  ⟨⟨lo,lo,r,true,rfl,HS.out⟩,((((Below.refl _ _).alloc (Nat.le_refl _) _).drewG n1).setCell (Nat.le_refl _) _).setCell (Nat.le_refl _) _⟩
set_option maxHeartbeats 1000000 in
theorem span_2n (s:By) (lo:UInt8) (r:By) (h:cbL s=some (lo,r)) (h1:1 < r.length) (h2:(at8 r 0 == 45)=true) (h3:(at8 r 1 == 93)=false) (h4:cbL (r.drop 1)=none) (w:World) :
 Calls Tryz.prog 254 #[.string (ba s)] w fun e w'=>SpanIs s e∧Below w.heap.size w w':=by
 have HS:Hid (spanL s=none):=by
  show _=_;unfold spanL;rw [h];simp only;rw [if_pos (by rw [decide_eq_true h1,h2,h3];rfl),h4]
 have hc:∀W,Calls Tryz.prog 220 #[.string (ba s)] W fun e w'=>e=.returned (.tuple #[.int .u8 (b8 lo),.string (ba r),.bool true])∧∃n,w'=W.drewN n:=by
  intro W;have:=cb_any s W;rw [h] at this;exact this
 have z:=ba_size r;have g1:(1:Int) < (r.length:Int):=by omega
 have i0:=idx0 r (by omega)
 have i1:=idx1 r h1;have q0:(b8 (at8 r 0) == 45)=true:=(b8_eq (at8 r 0) 45).trans h2;have q1:(b8 (at8 r 1) != 93)=true:=by have:=ne8 (at8 r 1) 93;rw [h3] at this;exact this
 have hdrop:=ba_drop r 1;generalize r.drop 1=rd at hdrop h4;generalize at8 r 0=x0 at i0 q0 h2;generalize at8 r 1=x1 at i1 q1 h3;have hc2:∀W,Calls Tryz.prog 220 #[.string (ba rd)] W fun e w'=>e=.returned (.tuple #[.int .u8 0,.string ⟨#[]⟩,.bool false])∧∃n,w'=W.drewN n:=by
  intro W;have:=cb_any rd W;rw [h4] at this;exact this
 clear h h2 h3 h4;go_enter Tryz.func254,Tryz.ntmps254
 go_wp2_with (fail)
 refine (hc _).mono ?_;rintro e1 w1 ⟨rfl,n1,rfl⟩;go_wp2_with (fail)
 refine (hc2 _).mono ?_;rintro e2 w2 ⟨rfl,n2,rfl⟩;go_wp2;exact bodyPost_ret (results_ctt rfl _ _ _ w.heap.size _ _ _ (load_span ((((Has.fresh w 281 _).drawn (n1+n2)).put 0 _).put 1 _)) rfl rfl rfl) rfl
  ⟨⟨lo,0,[],false,rfl,HS.out⟩,((((Below.refl _ _).alloc (Nat.le_refl _) _).drewG (n1+n2)).setCell (Nat.le_refl _) _).setCell (Nat.le_refl _) _⟩
set_option maxHeartbeats 1000000 in
theorem span_2f (s:By) (lo:UInt8) (r:By) (h:cbL s=some (lo,r)) (h1:1 < r.length) (h2:(at8 r 0 == 45)=true) (h3:(at8 r 1 == 93)=false) (hi:UInt8) (r2:By) (h4:cbL (r.drop 1)=some (hi,r2)) (h5:decide (lo.toNat≤hi.toNat)=false) (w:World) :
 Calls Tryz.prog 254 #[.string (ba s)] w fun e w'=>SpanIs s e∧Below w.heap.size w w':=by
 have HS:Hid (spanL s=none):=by
  show _=_;unfold spanL;rw [h];simp only;rw [if_pos (by rw [decide_eq_true h1,h2,h3];rfl),h4];simp only;rw [if_neg (by rw [h5];simp)]
 have hc:∀W,Calls Tryz.prog 220 #[.string (ba s)] W fun e w'=>e=.returned (.tuple #[.int .u8 (b8 lo),.string (ba r),.bool true])∧∃n,w'=W.drewN n:=by
  intro W;have:=cb_any s W;rw [h] at this;exact this
 have z:=ba_size r;have g1:(1:Int) < (r.length:Int):=by omega
 have i0:=idx0 r (by omega)
 have i1:=idx1 r h1;have q0:(b8 (at8 r 0) == 45)=true:=(b8_eq (at8 r 0) 45).trans h2;have q1:(b8 (at8 r 1) != 93)=true:=by have:=ne8 (at8 r 1) 93;rw [h3] at this;exact this
 have hdrop:=ba_drop r 1;generalize r.drop 1=rd at hdrop h4;generalize at8 r 0=x0 at i0 q0 h2;generalize at8 r 1=x1 at i1 q1 h3;have hc2:∀W,Calls Tryz.prog 220 #[.string (ba rd)] W fun e w'=>e=.returned (.tuple #[.int .u8 (b8 hi),.string (ba r2),.bool true])∧∃n,w'=W.drewN n:=by
  intro W;have:=cb_any rd W;rw [h4] at this;exact this
 have n5:decide (b8 lo≤b8 hi)=false:=(le8 lo hi).trans h5;clear h h2 h3 h4 h5;go_enter Tryz.func254,Tryz.ntmps254
 go_wp2_with (fail)
 refine (hc _).mono ?_;rintro e1 w1 ⟨rfl,n1,rfl⟩;go_wp2_with (fail)
 refine (hc2 _).mono ?_;rintro e2 w2 ⟨rfl,n2,rfl⟩;go_wp2;exact bodyPost_ret (results_ctt rfl _ _ _ w.heap.size _ _ _ (load_span ((((Has.fresh w 281 _).drawn (n1+n2)).put 0 _).put 1 _)) rfl rfl rfl) rfl
  ⟨⟨lo,hi,r2,false,rfl,HS.out⟩,((((Below.refl _ _).alloc (Nat.le_refl _) _).drewG (n1+n2)).setCell (Nat.le_refl _) _).setCell (Nat.le_refl _) _⟩
set_option maxHeartbeats 1000000 in
theorem span_2tt (s:By) (lo:UInt8) (r:By) (h:cbL s=some (lo,r)) (h1:1 < r.length) (h2:(at8 r 0 == 45)=true) (h3:(at8 r 1 == 93)=false) (hi:UInt8) (r2:By) (h4:cbL (r.drop 1)=some (hi,r2)) (h5:decide (lo.toNat≤hi.toNat)=true) (h7:(lo == 47)=true) (w:World) :
 Calls Tryz.prog 254 #[.string (ba s)] w fun e w'=>SpanIs s e∧Below w.heap.size w w':=by
 have HS:Hid (spanL s=none):=by
  show _=_;unfold spanL;rw [h];simp only;rw [if_pos (by rw [decide_eq_true h1,h2,h3];rfl),h4];simp only;rw [if_neg (by rw [h5,h7];simp)]
 have hc:∀W,Calls Tryz.prog 220 #[.string (ba s)] W fun e w'=>e=.returned (.tuple #[.int .u8 (b8 lo),.string (ba r),.bool true])∧∃n,w'=W.drewN n:=by
  intro W;have:=cb_any s W;rw [h] at this;exact this
 have z:=ba_size r;have g1:(1:Int) < (r.length:Int):=by omega
 have i0:=idx0 r (by omega)
 have i1:=idx1 r h1;have q0:(b8 (at8 r 0) == 45)=true:=(b8_eq (at8 r 0) 45).trans h2;have q1:(b8 (at8 r 1) != 93)=true:=by have:=ne8 (at8 r 1) 93;rw [h3] at this;exact this
 have hdrop:=ba_drop r 1;generalize r.drop 1=rd at hdrop h4;generalize at8 r 0=x0 at i0 q0 h2;generalize at8 r 1=x1 at i1 q1 h3;have hc2:∀W,Calls Tryz.prog 220 #[.string (ba rd)] W fun e w'=>e=.returned (.tuple #[.int .u8 (b8 hi),.string (ba r2),.bool true])∧∃n,w'=W.drewN n:=by
  intro W;have:=cb_any rd W;rw [h4] at this;exact this
 have n5:decide (b8 lo≤b8 hi)=true:=(le8 lo hi).trans h5;have n7:(b8 lo != 47)=false:=by have:=ne8 lo 47;rw [h7] at this;exact this
 clear h h2 h3 h4 h5 h7;go_enter Tryz.func254,Tryz.ntmps254
 go_wp2_with (fail)
 refine (hc _).mono ?_;rintro e1 w1 ⟨rfl,n1,rfl⟩;go_wp2_with (fail)
 refine (hc2 _).mono ?_;rintro e2 w2 ⟨rfl,n2,rfl⟩;go_wp2;exact bodyPost_ret (results_ctt rfl _ _ _ w.heap.size _ _ _ (load_span ((((Has.fresh w 281 _).drawn (n1+n2)).put 0 _).put 1 _)) rfl rfl rfl) rfl
  ⟨⟨lo,hi,r2,false,rfl,HS.out⟩,((((Below.refl _ _).alloc (Nat.le_refl _) _).drewG (n1+n2)).setCell (Nat.le_refl _) _).setCell (Nat.le_refl _) _⟩
set_option maxHeartbeats 1000000 in
theorem span_2tft (s:By) (lo:UInt8) (r:By) (h:cbL s=some (lo,r)) (h1:1 < r.length) (h2:(at8 r 0 == 45)=true) (h3:(at8 r 1 == 93)=false) (hi:UInt8) (r2:By) (h4:cbL (r.drop 1)=some (hi,r2)) (h5:decide (lo.toNat≤hi.toNat)=true) (h7:(lo == 47)=false) (h8:(hi == 47)=true) (w:World) :
 Calls Tryz.prog 254 #[.string (ba s)] w fun e w'=>SpanIs s e∧Below w.heap.size w w':=by
 have HS:Hid (spanL s=none):=by
  show _=_;unfold spanL;rw [h];simp only;rw [if_pos (by rw [decide_eq_true h1,h2,h3];rfl),h4];simp only;rw [if_neg (by rw [h5,h7,h8];decide)]
 have hc:∀W,Calls Tryz.prog 220 #[.string (ba s)] W fun e w'=>e=.returned (.tuple #[.int .u8 (b8 lo),.string (ba r),.bool true])∧∃n,w'=W.drewN n:=by
  intro W;have:=cb_any s W;rw [h] at this;exact this
 have z:=ba_size r;have g1:(1:Int) < (r.length:Int):=by omega
 have i0:=idx0 r (by omega)
 have i1:=idx1 r h1;have q0:(b8 (at8 r 0) == 45)=true:=(b8_eq (at8 r 0) 45).trans h2;have q1:(b8 (at8 r 1) != 93)=true:=by have:=ne8 (at8 r 1) 93;rw [h3] at this;exact this
 have hdrop:=ba_drop r 1;generalize r.drop 1=rd at hdrop h4;generalize at8 r 0=x0 at i0 q0 h2;generalize at8 r 1=x1 at i1 q1 h3;have hc2:∀W,Calls Tryz.prog 220 #[.string (ba rd)] W fun e w'=>e=.returned (.tuple #[.int .u8 (b8 hi),.string (ba r2),.bool true])∧∃n,w'=W.drewN n:=by
  intro W;have:=cb_any rd W;rw [h4] at this;exact this
 have n5:decide (b8 lo≤b8 hi)=true:=(le8 lo hi).trans h5;have n7:(b8 lo != 47)=true:=by have:=ne8 lo 47;rw [h7] at this;exact this
 have n8:(b8 hi != 47)=false:=by have:=ne8 hi 47;rw [h8] at this;exact this
 clear h h2 h3 h4 h5 h7 h8;go_enter Tryz.func254,Tryz.ntmps254
 go_wp2_with (fail)
 refine (hc _).mono ?_;rintro e1 w1 ⟨rfl,n1,rfl⟩;go_wp2_with (fail)
 refine (hc2 _).mono ?_;rintro e2 w2 ⟨rfl,n2,rfl⟩;go_wp2;exact bodyPost_ret (results_ctt rfl _ _ _ w.heap.size _ _ _ (load_span ((((Has.fresh w 281 _).drawn (n1+n2)).put 0 _).put 1 _)) rfl rfl rfl) rfl
  ⟨⟨lo,hi,r2,false,rfl,HS.out⟩,((((Below.refl _ _).alloc (Nat.le_refl _) _).drewG (n1+n2)).setCell (Nat.le_refl _) _).setCell (Nat.le_refl _) _⟩
set_option maxHeartbeats 1000000 in
theorem span_2tff (s:By) (lo:UInt8) (r:By) (h:cbL s=some (lo,r)) (h1:1 < r.length) (h2:(at8 r 0 == 45)=true) (h3:(at8 r 1 == 93)=false) (hi:UInt8) (r2:By) (h4:cbL (r.drop 1)=some (hi,r2)) (h5:decide (lo.toNat≤hi.toNat)=true) (h7:(lo == 47)=false) (h8:(hi == 47)=false) (w:World) :
 Calls Tryz.prog 254 #[.string (ba s)] w fun e w'=>SpanIs s e∧Below w.heap.size w w':=by
 have HS:Hid (spanL s=some ((lo,hi),r2)):=by
  show _=_;unfold spanL;rw [h];simp only;rw [if_pos (by rw [decide_eq_true h1,h2,h3];rfl),h4];simp only;rw [if_pos (by rw [h5,h7,h8];decide)]
 have hc:∀W,Calls Tryz.prog 220 #[.string (ba s)] W fun e w'=>e=.returned (.tuple #[.int .u8 (b8 lo),.string (ba r),.bool true])∧∃n,w'=W.drewN n:=by
  intro W;have:=cb_any s W;rw [h] at this;exact this
 have z:=ba_size r;have g1:(1:Int) < (r.length:Int):=by omega
 have i0:=idx0 r (by omega)
 have i1:=idx1 r h1;have q0:(b8 (at8 r 0) == 45)=true:=(b8_eq (at8 r 0) 45).trans h2;have q1:(b8 (at8 r 1) != 93)=true:=by have:=ne8 (at8 r 1) 93;rw [h3] at this;exact this
 have hdrop:=ba_drop r 1;generalize r.drop 1=rd at hdrop h4;generalize at8 r 0=x0 at i0 q0 h2;generalize at8 r 1=x1 at i1 q1 h3;have hc2:∀W,Calls Tryz.prog 220 #[.string (ba rd)] W fun e w'=>e=.returned (.tuple #[.int .u8 (b8 hi),.string (ba r2),.bool true])∧∃n,w'=W.drewN n:=by
  intro W;have:=cb_any rd W;rw [h4] at this;exact this
 have n5:decide (b8 lo≤b8 hi)=true:=(le8 lo hi).trans h5;have n7:(b8 lo != 47)=true:=by have:=ne8 lo 47;rw [h7] at this;exact this
 have n8:(b8 hi != 47)=true:=by have:=ne8 hi 47;rw [h8] at this;exact this
 clear h h2 h3 h4 h5 h7 h8;go_enter Tryz.func254,Tryz.ntmps254
 go_wp2_with (fail)
 refine (hc _).mono ?_;rintro e1 w1 ⟨rfl,n1,rfl⟩;go_wp2_with (fail)
 refine (hc2 _).mono ?_;rintro e2 w2 ⟨rfl,n2,rfl⟩;go_wp2;exact bodyPost_ret (results_ctt rfl _ _ _ w.heap.size _ _ _ (load_span ((((Has.fresh w 281 _).drawn (n1+n2)).put 0 _).put 1 _)) rfl rfl rfl) rfl
  ⟨⟨lo,hi,r2,true,rfl,HS.out⟩,((((Below.refl _ _).alloc (Nat.le_refl _) _).drewG (n1+n2)).setCell (Nat.le_refl _) _).setCell (Nat.le_refl _) _⟩
theorem span_any (s:By) (w:World) :
 Calls Tryz.prog 254 #[.string (ba s)] w fun e w'=>SpanIs s e∧Below w.heap.size w w':=by
 cases h:cbL s with
 | none=>exact span_none s h w
 | some y =>
  obtain ⟨lo,r⟩:=y;by_cases h1:1 < r.length
  · cases h2:at8 r 0 == 45 with
    | false=>cases h7:lo == 47 with
     | true=>exact span_at s lo r h h1 h2 h7 w
     | false=>exact span_af s lo r h h1 h2 h7 w
    | true => cases h3:at8 r 1 == 93 with
     | true=>cases h7:lo == 47 with
      | true=>exact span_bt s lo r h h1 h2 h3 h7 w
      | false=>exact span_bf s lo r h h1 h2 h3 h7 w
     | false=>cases h4:cbL (r.drop 1) with
      | none=>exact span_2n s lo r h h1 h2 h3 h4 w
      | some y =>
       obtain ⟨hi,r2⟩:=y
       cases h5:decide (lo.toNat≤hi.toNat) with
       | false=>exact span_2f s lo r h h1 h2 h3 hi r2 h4 h5 w
       | true=>cases h7:lo == 47 with
        | true=>exact span_2tt s lo r h h1 h2 h3 hi r2 h4 h5 h7 w
        | false=>cases h8:hi == 47 with
              | true=>exact span_2tft s lo r h h1 h2 h3 hi r2 h4 h5 h7 h8 w
              | false=>exact span_2tff s lo r h h1 h2 h3 hi r2 h4 h5 h7 h8 w
  · cases h7:lo == 47 with
    | true=>exact span_st s lo r h h1 h7 w
    | false=>exact span_sf s lo r h h1 h7 w
end Go.Proofs.YtahkcemdbfjilaaGreatDoor.Glob
