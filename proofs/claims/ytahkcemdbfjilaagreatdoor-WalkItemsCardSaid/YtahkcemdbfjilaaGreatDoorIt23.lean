/- Several texts in one. Conditions: those said at each. -/
import Derived.Test.YtahkcemdbfjilaaGreatDoorIt22
import Derived.Laws.OwnMore
import Derived.DeepKeys4
set_option linter.unusedSimpArgs false
set_option linter.unusedVariables false
set_option maxRecDepth 100000
namespace Go.Proofs.YtahkcemdbfjilaaGreatDoor.Glob
open Go.RowKit
theorem match_any (g:Nat) (s:By) (p:Pt) (path:By) (w:World) (hp:PatIs w g s p) :
 Calls Tryz.prog 158 #[.pointer (some ⟨g,0,none⟩),.string (ba path)] w fun e w'=>e=.returned (.bool (mB p.rooted p.hs path))∧Below w.heap.size w w':=by
 by_cases hl:160 < path.length
 · exact match_long g s p path w hp hl
 · exact match_short g s p path w hp (by omega)
def perr (s:By):Int:=if 128 < s.length then 3 else match parseL s with | none=>4 | some _=>0
theorem parse_cases {s:By} {e:Ending} {w:World} (h:ParseIs s e w):((∃k:Int,k≠0∧perr s=k∧e=.returned (.tuple #[.pointer none,.int .i64 k]))∨∃p g,¬128 < s.length∧parseL s=some p∧perr s=0∧e=.returned (.tuple #[.pointer (some ⟨g,0,none⟩),.int .i64 0])∧PatIs w g s p):=by
 unfold ParseIs at h;unfold perr;by_cases hl:128 < s.length
 · rw [if_pos hl] at h ⊢
   exact .inl ⟨3,by decide,rfl,h⟩
 · rw [if_neg hl] at h ⊢
   cases hp:parseL s with
   | none=>rw [hp] at h;exact .inl ⟨4,by decide,rfl,h⟩
   | some p =>
    rw [hp] at h;obtain ⟨g,h1,h2⟩:=h;exact .inr ⟨p,g,hl,rfl,rfl,h1,h2⟩
end Go.Proofs.YtahkcemdbfjilaaGreatDoor.Glob
namespace Go.Proofs.YtahkcemdbfjilaaGreatDoor.Glob
open Go.RowKit
abbrev Fl:=List (By × By)
def blk (c:UInt8):Bool:=(c == 32)||(c == 9)
def trimR (s:By):By:=(s.reverse.dropWhile blk).reverse
def trimB (s:By):By:=(trimR s).dropWhile blk
def cutN:By→By × By × Bool
 | []=>([],[],false)
 | c :: l=>if c=10 then ([],l,true) else (c :: (cutN l).1,(cutN l).2.1,(cutN l).2.2)
theorem cut_ten (l:By):Lib.cut l [10]=cutN l:=by
 induction l with
 | nil=>rfl
 | cons c l ih =>
  have hge:=Lib.index_ge l [10];unfold Lib.cut Lib.index cutN;by_cases hc:c=10
  · subst hc;rfl
  · have h1:[10].isPrefixOf (c :: l)=false:=by simp [List.isPrefixOf,Ne.symm hc]
    rw [if_neg (show ¬[10].isPrefixOf (c :: l)=true by rw [h1];decide),if_neg hc,←ih]
    unfold Lib.cut;by_cases hi:Lib.index l [10] = -1
    · rw [hi];rfl
    · have h0:(0:Int)≤Lib.index l [10]:=by omega
      have h2:¬(Lib.index l [10] == -1)=true:=by simpa using hi
      rw [if_neg h2,if_pos h0,if_pos (show (0:Int)≤Lib.index l [10]+1 by omega)]
      obtain ⟨n,hn⟩:=Int.eq_ofNat_of_zero_le h0;rw [hn];have e:((n:Int)+1).toNat=n+1:=by omega
      simp only [e,Int.toNat_natCast,List.take_succ_cons,List.length_singleton];rw [show n+1+1=(n+1)+1 from rfl,List.drop_succ_cons]
theorem cutYtahkcemdbfjilaaGreatDoorlen (l:By):(cutN l).2.1.length≤l.length∧(cutN l).1.length≤l.length∧((cutN l).2.2=true→(cutN l).2.1.length < l.length):=by
 induction l with
 | nil=>simp [cutN]
 | cons c l ih =>
  unfold cutN;by_cases hc:c=10
  · simp [hc]
  · rw [if_neg hc];simp only [List.length_cons];refine ⟨by omega,by omega,fun h=>by have:=ih.2.2 h;omega⟩
def rowsN:By→List By
 | []=>[[]]
 | c :: l=>if c=10 then [] :: rowsN l else match rowsN l with | p :: ps=>(c :: p) :: ps | []=>[[c]]
theorem rowsYtahkcemdbfjilaaGreatDoorcut (l:By):rowsN l=if (cutN l).2.2 then (cutN l).1 :: rowsN (cutN l).2.1 else [(cutN l).1]:=by
 induction l with
 | nil=>rfl
 | cons c l ih =>
  rw [rowsN,cutN];by_cases hc:c=10
  · rw [if_pos hc,if_pos hc,if_pos rfl]
  · rw [if_neg hc,if_neg hc,ih]
    cases h:(cutN l).2.2
    · rfl
    · rfl
def idle (s:By):Bool:=decide (s=[])||pre [47,47] s
def linesL (l:By):List By:=((rowsN l).map trimB).filter fun s=>!idle s
theorem linesL_cut (l:By):linesL l=(if idle (trimB (cutN l).1) then [] else [trimB (cutN l).1])++(if (cutN l).2.2 then linesL (cutN l).2.1 else []):=by
 unfold linesL;rw [rowsYtahkcemdbfjilaaGreatDoorcut]
 cases (cutN l).2.2<;>cases h:idle (trimB (cutN l).1)<;>simp [h]
theorem trimR_len (s:By):(trimR s).length≤s.length:=by
 unfold trimR;rw [List.length_reverse];have:=(List.dropWhile_suffix blk (l:=s.reverse)).length_le;simpa using this
theorem trimB_len (s:By):(trimB s).length≤s.length:=by
 unfold trimB;exact Nat.le_trans (List.dropWhile_suffix blk).length_le (trimR_len s)
theorem rowsYtahkcemdbfjilaaGreatDoorlen (n:Nat):∀l:By,l.length≤n→∀p∈rowsN l,p.length≤l.length:=by
 induction n with
 | zero=>intro l h p hp;obtain rfl:=List.length_eq_zero_iff.1 (Nat.le_zero.1 h);simp [rowsN] at hp;simp [hp]
 | succ n ih =>
  intro l h p hp;rw [rowsYtahkcemdbfjilaaGreatDoorcut] at hp;have h1:=cutYtahkcemdbfjilaaGreatDoorlen l;split at hp
  · rename_i hc
    rcases List.mem_cons.1 hp with rfl | hp
    · exact h1.2.1
    · exact Nat.le_trans (ih _ (by have:=h1.2.2 hc;omega) p hp) h1.1
  · simp only [List.mem_singleton] at hp;subst hp;exact h1.2.1
theorem linesL_len {l s:By} (h:s∈linesL l):s.length≤l.length:=by
 unfold linesL at h;obtain ⟨h1,_⟩:=List.mem_filter.1 h;obtain ⟨p,hp,rfl⟩:=List.mem_map.1 h1;exact Nat.le_trans (trimB_len p) (rowsYtahkcemdbfjilaaGreatDoorlen _ l (Nat.le_refl _) p hp)
def incM:By:=[35,105,110,99,108,117,100,101,32]
def findF (fs:Fl) (name:By):Option By:=match fs.find? (fun f=>f.1 == name) with | none=>none | some f=>some f.2
def stepL (rd:By→List By→Except Int (List By)):List By→List By→Except Int (List By)
 | [],ps=>.ok ps
 | s :: ls,ps =>
  if pre incM s then match rd (s.drop 9) ps with | .error e=>.error e | .ok qs=>stepL rd ls qs
  else if ps.length=64 then .error 3 else if perr s≠0 then .error (perr s) else stepL rd ls (ps++[s])
def readL (fs:Fl):Nat→List By→By→List By→Except Int (List By)
 | 0,within,name,_=>match findF fs name with | none=>.error 5 | some _=>if name∈within then .error 22 else .error 3
 | k+1,within,name,ps=>match findF fs name with | none=>.error 5 | some t=>if name∈within then .error 22 else stepL (readL fs k (within++[name])) (linesL t) ps
def flatS (rd:By→Option (List By)):List By→Option (List By)
 | []=>some []
 | s :: ls =>
  if pre incM s then match rd (s.drop 9),flatS rd ls with | some a,some b=>some (a++b) | _,_=>none
  else if perr s≠0 then none else match flatS rd ls with | some b=>some (s :: b) | none=>none
def flat (fs:Fl):Nat→By→Option (List By)
 | 0,_=>none
 | k+1,name=>match findF fs name with | none=>none | some t=>flatS (flat fs k) (linesL t)
theorem flatS_mono {rd rd':By→Option (List By)} (h:∀y l,rd y=some l→rd' y=some l):∀ls l,flatS rd ls=some l→flatS rd' ls=some l:=by
 intro ls;induction ls with
 | nil=>intro l hl;exact hl
 | cons s ls ih =>
  intro l hl;unfold flatS at hl ⊢;split at hl
  · rename_i hp
    rw [if_pos hp]
    cases h1:rd (s.drop 9) with
    | none=>rw [h1] at hl;cases hl
    | some a =>
     cases h2:flatS rd ls with
     | none=>rw [h1,h2] at hl;cases hl
     | some b=>rw [h1,h2] at hl;rw [h _ _ h1,ih _ h2];exact hl
  · rename_i hp
    rw [if_neg hp];split at hl
    · cases hl
    · rename_i hq
      rw [if_neg hq]
      cases h2:flatS rd ls with
      | none=>rw [h2] at hl;cases hl
      | some b=>rw [h2] at hl;rw [ih _ h2];exact hl
theorem flat_mono1 (fs:Fl) (k:Nat):∀name l,flat fs k name=some l→flat fs (k+1) name=some l:=by
 induction k with
 | zero=>intro name l h;cases h
 | succ k ih =>
  intro name l h;unfold flat at h ⊢
  cases hf:findF fs name with
  | none=>rw [hf] at h;cases h
  | some t=>rw [hf] at h;exact flatS_mono ih _ _ h
theorem flat_mono {fs:Fl} {k k':Nat} (hk:k≤k') {name:By} {l:List By} (h:flat fs k name=some l):flat fs k' name=some l:=by
 induction hk with
 | refl=>exact h
 | step _ ih=>exact flat_mono1 _ _ _ _ ih
theorem flatS_inc {rd:By→Option (List By)}:∀{ls:List By} {l:List By},flatS rd ls=some l→∀s∈ls,pre incM s=true→(rd (s.drop 9)).isSome
 | [],_,_,s,hs,_=>by cases hs
 | t :: ls,l,h,s,hs,hp=>by
  unfold flatS at h;split at h
  · cases h1:rd (t.drop 9) with
    | none=>rw [h1] at h;cases h
    | some a =>
     cases h2:flatS rd ls with
     | none=>rw [h1,h2] at h;cases h
     | some b =>
      rcases List.mem_cons.1 hs with rfl | hs
      · rw [h1];rfl
      · exact flatS_inc h2 s hs hp
  · rename_i ht
    split at h
    · cases h
    · cases h2:flatS rd ls with
      | none=>rw [h2] at h;cases h
      | some b =>
       rcases List.mem_cons.1 hs with rfl | hs
       · exact absurd hp ht
       · exact flatS_inc h2 s hs hp
theorem stepL_flat {rd:By→List By→Except Int (List By)} {rf:By→Option (List By)} (h:∀y ps qs,rd y ps=.ok qs→∃l,rf y=some l∧qs=ps++l) :
 ∀ls ps qs,stepL rd ls ps=.ok qs→∃l,flatS rf ls=some l∧qs=ps++l:=by
 intro ls;induction ls with
 | nil=>intro ps qs hq;simp only [stepL,Except.ok.injEq] at hq;exact ⟨[],rfl,by simp [hq]⟩
 | cons s ls ih =>
  intro ps qs hq;unfold stepL at hq;unfold flatS;split at hq
  · rename_i hp
    rw [if_pos hp]
    cases h1:rd (s.drop 9) ps with
    | error e=>rw [h1] at hq;cases hq
    | ok rs =>
     rw [h1] at hq;obtain ⟨a,ha,rfl⟩:=h _ _ _ h1;obtain ⟨b,hb,rfl⟩:=ih _ _ hq;exact ⟨a++b,by rw [ha,hb],by simp⟩
  · rename_i hp
    rw [if_neg hp];split at hq
    · cases hq
    · split at hq
      · cases hq
      · rename_i he
        rw [if_neg he];obtain ⟨b,hb,rfl⟩:=ih _ _ hq;exact ⟨s :: b,by rw [hb],by simp⟩
theorem readL_flat (fs:Fl) (k:Nat):∀within name ps qs,readL fs k within name ps=.ok qs→∃l,flat fs k name=some l∧qs=ps++l:=by
 induction k with
 | zero =>
  intro within name ps qs h;unfold readL at h;split at h
  · cases h
  · split at h<;>cases h
 | succ k ih =>
  intro within name ps qs h;unfold readL at h;unfold flat
  cases hf:findF fs name with
  | none=>rw [hf] at h;cases h
  | some t =>
   rw [hf] at h;simp only at h;split at h
   · cases h
   · exact stepL_flat (fun y ps qs=>ih _ y ps qs) _ _ _ h
def Chain (fs:Fl) (within:List By) (name:By):Prop:=∀x∈within,∀j,(flat fs (j+1) x).isSome→(flat fs j name).isSome
theorem Chain.nil (fs:Fl) (name:By):Chain fs [] name:=fun x hx=>by cases hx
theorem Chain.free {fs:Fl} {within:List By} {name:By} (h:Chain fs within name) {k:Nat} {l:List By} (hf:flat fs k name=some l):name∉within:=by
 intro hm;have:∀j,(flat fs j name).isSome→False:=by
  intro j;induction j with
  | zero=>intro h0;cases h0
  | succ j ih=>intro h0;exact ih (h name hm j h0)
 exact this k (by rw [hf];rfl)
theorem Chain.down {fs:Fl} {within:List By} {name t:By} (h:Chain fs within name) (hf:findF fs name=some t) {s:By} (hs:s∈linesL t) (hp:pre incM s=true):Chain fs (within++[name]) (s.drop 9):=by
 have key:∀j,(flat fs (j+1) name).isSome→(flat fs j (s.drop 9)).isSome:=by
  intro j hj
  cases hv:flat fs (j+1) name with
  | none=>rw [hv] at hj;cases hj
  | some v=>unfold flat at hv;rw [hf] at hv;exact flatS_inc hv s hs hp
 intro x hx j hj;rcases List.mem_append.1 hx with hx | hx
 · have h1:=h x hx j hj
   cases j with
   | zero=>cases h1
   | succ j =>
    have h2:=key j h1
    cases hv:flat fs j (s.drop 9) with
    | none=>rw [hv] at h2;cases h2
    | some v=>rw [flat_mono1 _ _ _ _ hv];rfl
 · obtain rfl:=List.mem_singleton.1 hx
   exact key j hj
def addL (ps l:List By):Except Int (List By):=if ps.length+l.length≤64 then .ok (ps++l) else .error 3
theorem stepL_add {rd:By→List By→Except Int (List By)} {rf:By→Option (List By)}:∀ls l ps,(∀s∈ls,pre incM s=true→∀a qs,rf (s.drop 9)=some a→qs.length≤64→rd (s.drop 9) qs=addL qs a)→flatS rf ls=some l→ps.length≤64→stepL rd ls ps=addL ps l:=by
 intro ls;induction ls with
 | nil =>
  intro l ps _ hl hp;simp only [flatS,Option.some.injEq] at hl;subst hl;unfold stepL addL;rw [if_pos (by simpa using hp)];simp
 | cons s ls ih =>
  intro l ps h hl hp;unfold flatS at hl;unfold stepL;split at hl
  · rename_i hi
    rw [if_pos hi]
    cases h1:rf (s.drop 9) with
    | none=>rw [h1] at hl;cases hl
    | some a =>
     cases h2:flatS rf ls with
     | none=>rw [h1,h2] at hl;cases hl
     | some b =>
      rw [h1,h2] at hl;simp only [Option.some.injEq] at hl;subst hl;rw [h s (by simp) hi a ps h1 hp]
      unfold addL;by_cases hq:ps.length+a.length≤64
      · rw [if_pos hq]
        simp only;rw [ih b (ps++a) (fun t ht=>h t (by simp [ht])) h2 (by simpa using hq)]
        unfold addL;simp only [List.length_append,List.append_assoc,Nat.add_assoc]
      · rw [if_neg hq,if_neg (by simp only [List.length_append];omega)]
  · rename_i hi
    rw [if_neg hi];split at hl
    · cases hl
    · rename_i he
      cases h2:flatS rf ls with
      | none=>rw [h2] at hl;cases hl
      | some b =>
       rw [h2] at hl;simp only [Option.some.injEq] at hl;subst hl;by_cases h64:ps.length=64
       · rw [if_pos h64];unfold addL;rw [if_neg (by simp only [List.length_cons];omega)]
       · rw [if_neg h64,if_neg he,ih b (ps++[s]) (fun t ht=>h t (by simp [ht])) h2 (by simp;omega)]
         unfold addL;simp only [List.length_append,List.length_cons,List.length_nil,List.append_assoc,List.cons_append,List.nil_append,Nat.add_assoc,Nat.add_comm 1]
theorem readL_add (fs:Fl) (k:Nat):∀within name ps l,flat fs k name=some l→Chain fs within name→ps.length≤64→readL fs k within name ps=addL ps l:=by
 induction k with
 | zero=>intro within name ps l h;cases h
 | succ k ih =>
  intro within name ps l h hc hp;have hfree:=hc.free h;unfold readL;unfold flat at h
  cases hf:findF fs name with
  | none=>rw [hf] at h;cases h
  | some t =>
   rw [hf] at h;simp only;rw [if_neg hfree];exact stepL_add _ _ _ (fun s hs hi a qs ha hq=>ih _ _ _ _ ha (hc.down hf hs hi) hq) h hp
theorem stepL_64 {rd:By→List By→Except Int (List By)} (h:∀y ps qs,rd y ps=.ok qs→ps.length≤64→qs.length≤64):∀ls ps qs,stepL rd ls ps=.ok qs→ps.length≤64→qs.length≤64:=by
 intro ls;induction ls with
 | nil=>intro ps qs hq hp;simp only [stepL,Except.ok.injEq] at hq;rw [←hq];exact hp
 | cons s ls ih =>
  intro ps qs hq hp;unfold stepL at hq;split at hq
  · cases h1:rd (s.drop 9) ps with
    | error e=>rw [h1] at hq;cases hq
    | ok rs=>rw [h1] at hq;exact ih _ _ hq (h _ _ _ h1 hp)
  · split at hq
    · cases hq
    · split at hq
      · cases hq
      · exact ih _ _ hq (by simp;omega)
theorem readL_64 (fs:Fl) (k:Nat):∀within name ps qs,readL fs k within name ps=.ok qs→ps.length≤64→qs.length≤64:=by
 induction k with
 | zero =>
  intro within name ps qs h;unfold readL at h;split at h
  · cases h
  · split at h<;>cases h
 | succ k ih =>
  intro within name ps qs h hp;unfold readL at h;split at h
  · cases h
  · split at h
    · cases h
    · exact stepL_64 (fun y ps qs=>ih _ y ps qs) _ _ _ h hp
end Go.Proofs.YtahkcemdbfjilaaGreatDoor.Glob
namespace Go.Proofs.YtahkcemdbfjilaaGreatDoor.Glob
open Go.RowKit Go.Maps
theorem own_stays {w w':World} {B:Nat} {e:TypeId} {s n:Nat} {v:Value} {xs:List Value} (h:w.ownsRow B e s v n xs) (hk:∀k,v.ownBlock=some k→w'.heap[k]? = w.heap[k]?):w'.ownsRow B e s v n xs:=by
 refine ⟨h.1,?_⟩;rcases h.2 with h1 | ⟨g,c,cur,rfl,hB,h3,h4⟩
 · exact .inl h1
 · exact .inr ⟨g,c,cur,rfl,hB,(hk g rfl).trans h3,h4⟩
theorem own_below {w w':World} {B:Nat} {e:TypeId} {s n:Nat} {v:Value} {xs:List Value} (h:w.ownsRow B e s v n xs) (hb:Below w.heap.size w w'):w'.ownsRow B e s v n xs:=by
 refine own_stays h fun k hk=>?_
 rcases h.2 with ⟨rfl,_⟩ | ⟨g,c,cur,rfl,hB,h3,h4⟩
 · cases hk
 · obtain rfl:=Option.some.inj hk
   exact hb.block g (Array.getElem?_eq_some_iff.1 h3).1
theorem own_inside {w:World} {B:Nat} {e:TypeId} {s n:Nat} {v:Value} {xs:List Value} (h:w.ownsRow B e s v n xs):∀k,v.ownBlock=some k→B≤k∧k < w.heap.size:=by
 intro k hk;rcases h.2 with ⟨rfl,_⟩ | ⟨g,c,cur,rfl,hB,h3,h4⟩
 · cases hk
 · obtain rfl:=Option.some.inj hk
   exact ⟨hB,(Array.getElem?_eq_some_iff.1 h3).1⟩
theorem own_form {w:World} {B:Nat} {e:TypeId} {s n:Nat} {v:Value} {xs:List Value} (h:w.ownsRow B e s v n xs):∃A c,v=.slice A n c:=by
 rcases h.2 with ⟨rfl,rfl⟩ | ⟨g,c,cur,rfl,_⟩
 · exact ⟨_,_,rfl⟩
 · exact ⟨_,_,rfl⟩
theorem own_mono {w:World} {B B':Nat} {e:TypeId} {s n:Nat} {v:Value} {xs:List Value} (h:w.ownsRow B e s v n xs) (hb:B'≤B):w.ownsRow B' e s v n xs:=by
 refine ⟨h.1,?_⟩;rcases h.2 with h1 | ⟨g,c,cur,rfl,hB,h3⟩
 · exact .inl h1
 · exact .inr ⟨g,c,cur,rfl,by omega,h3⟩
theorem own_cells {w:World} {B:Nat} {e:TypeId} {s n:Nat} {v:Value} {xs:List Value} (h:w.ownsRow B e s v n xs) (h0:0 < n) :
 ∃g c,v=.slice (some ⟨g,0,none⟩) n c∧B≤g∧g < w.heap.size∧n≤c∧(∀j u,xs[j]? = some u→w.cell? ⟨g,j,none⟩=some u):=by
 rcases h.2 with ⟨_,h2⟩ | ⟨g,c,cur,rfl,hB,h3,h4,h5,h6,h7⟩
 · omega
 · refine ⟨g,c,rfl,hB,(Array.getElem?_eq_some_iff.1 h3).1,h4,fun j u hj=>?_⟩
   have hh:Has w g e cur:=h3;rw [hh.at_,←Array.getElem?_toList];rw [←h7] at hj;have hj2:j < n*s:=by have:=(List.getElem?_eq_some_iff.1 hj).1;simp at this;omega
   rw [List.getElem?_take_of_lt hj2] at hj;exact hj
theorem append_old {w:World} {B:Nat} {t ty e:TypeId} {i:TypeInfo} {z:Value} {size bytes:Nat} (ht:Tryz.prog.underlying t=some (.slice e)) (hi:Tryz.prog.info? e=some i) (hz:i.zero=some z)
 (hsize:i.size=size) (hby:i.bytes=bytes) (hzs:z.cells.size=size) (hsz:0 < size) {v:Value} {n:Nat} {xs:List Value} (hown:w.ownsRow B e size v n xs)
 {a:Addr} {m c:Nat} {news:List Value} (hl:news.length=m*size) (hnews:∀(j:Nat) u,news[j]? = some u→w.cell? (a.add j)=some u) (h1:∀u∈news,u.oneCell'=true)
 (hb:(n+m)*bytes≤140737488355328) (h63:n+m≤1000000) (hbase:B≤w.heap.size) :
 ∃v' w',(Builtin.append_ #[t,t] ty #[v,.slice (some a) m c]).run Tryz.prog w=.ok v' w'∧w'.ownsRow B e size v' (n+m) (xs++news)∧w'.ownsRow B e size v n xs∧w.grownBy w' v.ownBlock∧(v'.ownBlock=v.ownBlock∨v'.ownBlock=some w.heap.size):=by
 obtain ⟨v',w',hr,ho,hg,_,hk⟩:=run_append_own_at (P:=Tryz.prog) w B t ty e i z size bytes ht hi hz hsize hby hzs hsz v n xs hown a m c news hl hnews h1 (by unfold maxLen;omega) hb hbase
 refine ⟨v',w',hr,ho,?_,hg,hk⟩;rcases hown.2 with ⟨rfl,rfl⟩ | ⟨g,cap,cur,rfl,hbg,h3,hnc,hcm,hcs,htake⟩
 · exact ⟨hown.1,.inl ⟨rfl,rfl⟩⟩
 · by_cases hroom:n+m≤cap
   · obtain ⟨w2,hr2,ho2,hg2⟩:=run_append_fits (P:=Tryz.prog) w B t ty e i size ht hi hsize g n cap xs hown a m c news hl hnews h1 hroom
     have e2:=hr.symm.trans hr2;simp only [Result.ok.injEq] at e2;obtain ⟨rfl,rfl⟩:=e2;refine ⟨hown.1,.inr ?_⟩;rcases ho2.2 with ⟨h,_⟩ | ⟨g',cap',cur',h,hB',h3',_,_,hcs',ht'⟩
     · simp at h
     · simp only [Value.slice.injEq,Option.some.injEq,Addr.mk.injEq,and_true,true_and] at h
       obtain ⟨rfl,rfl⟩:=h;refine ⟨g,cap,cur',rfl,hbg,h3',hnc,hcm,hcs',?_⟩;have:=congrArg (List.take (n*size)) ht';rw [List.take_take,Nat.min_eq_left (Nat.mul_le_mul_right _ (by omega)),←hown.1,List.take_left] at this
       rw [←hown.1];exact this
   · have hr2:=run_append_grow (P:=Tryz.prog) w t ty e i z ht hi hz ⟨g,0,none⟩ n cap xs (by rw [hown.1,hsize]) (hown.cells (g:=g) rfl) a m c news (by rw [hl,hsize]) hnews (by omega) (by omega) (growslice_fits (by omega) (by rw [hby];exact hb))
     have e2:=hr.symm.trans hr2;simp only [Result.ok.injEq] at e2;obtain ⟨rfl,rfl⟩:=e2;exact ⟨hown.1,.inr ⟨g,cap,cur,rfl,hbg,(heap_alloc_old w.drew _ (Array.getElem?_eq_some_iff.1 h3).1).trans h3,hnc,hcm,hcs,htake⟩⟩
theorem grown_below {w w':World} {row:Option Nat} {B:Nat} {a:World} (hg:w.grownBy w' row) (hb:Below B a w) (hr:∀k,row=some k→B≤k) (hB:B≤w.heap.size):Below B a w' :=
 hb.trans ⟨hg.os,hg.tape,hg.output,hg.size,fun k hk=>hg.block k (by omega) fun e=>by have:=hr k e.symm;omega⟩
def Rv (v:Value):Option (DataW Value × List MemPlace):=some (.held v,[])
theorem str_keyed:Keyed Tryz.prog 9:=string_keyed Tryz.underlying9
theorem str_key (s:By) (hs:s.length≤maxLen):keyOf Tryz.prog 9 (.string (ba s))=some (.string s):=by
 rw [keyOf_string Tryz.underlying9];simp [mapKey,Tryz.underlying9,ba_size,hs];rfl
def MapZ (w:World) (z:Value) (b c:Nat) (f:Value→Option Value):Prop :=
 ∃D:DataW Value,w.ownsMap Tryz.prog 9 Rv b c D∧size D=c∧∀x kl,keyOf Tryz.prog 9 x=some kl→has D kl=(f x).isSome∧D.atKey kl (.held z)=.held ((f x).getD z)
section
variable {w w':World} {z:Value} {b c:Nat} {f:Value→Option Value} {t e:TypeId}
theorem MapZ.kept (h:MapZ w z b c f) (he:w'.heap[b]? = w.heap[b]?):MapZ w' z b c f:=by
 obtain ⟨D,⟨es,clock,hb,r⟩,h2⟩:=h;exact ⟨D,⟨es,clock,he.trans hb,r⟩,h2⟩
theorem MapZ.inside (h:MapZ w z b c f):b < w.heap.size:=by
 obtain ⟨D,h1,_⟩:=h;exact h1.lt
theorem MapZ.made (w:World) (z:Value):MapZ (w.alloc (.map #[] 0)) z w.heap.size 0 (fun _=>none) :=
 ⟨.map [],World.ownsMap_made w _ 9 Rv,rfl,fun _ _ _=>⟨rfl,rfl⟩⟩
theorem MapZ.obj (h:MapZ w z b c f):∃es clock,w.heap[b]? = some (.map es clock):=by
 obtain ⟨D,⟨es,clock,hb,_⟩,_⟩:=h;exact ⟨es,clock,hb⟩
theorem MapZ.lookOk (ht:Tryz.prog.underlying t=some (.map 9 e)) (h:MapZ w z b c f) (hz:(zeroValue e).run Tryz.prog w=.ok z w) {x:Value} {kl:Lit} (hk:keyOf Tryz.prog 9 x=some kl) :
 (Instr.lookup t (.map (some b)) x true).run Tryz.prog w=.ok (.tuple #[(f x).getD z,.bool (f x).isSome]) w:=by
 obtain ⟨D,h1,_,h3⟩:=h;obtain ⟨v,ps,hr,hv⟩:=h1.look_ok str_keyed ht hz (zd:=.held z) (zp:=[]) rfl hk;rw [(h3 x kl hk).2] at hv;simp only [Rv,Option.some.injEq,Prod.mk.injEq,DataW.held.injEq] at hv;rw [hr,hv.1,(h3 x kl hk).1]
open Classical in
theorem MapZ.store (ht:Tryz.prog.underlying t=some (.map 9 e)) (h:MapZ w z b c f) (hc:c < 1000000000) {x v:Value} {kl:Lit} (hk:keyOf Tryz.prog 9 x=some kl) :
 ∃w',(Instr.mapUpdate t (.map (some b)) x v).run Tryz.prog w=.ok () w'∧MapZ w' z b (if (f x).isSome then c else c+1) (fun y=>if y=x then some v else f y)∧w.grownBy w' (some b):=by
 obtain ⟨D,h1,h2,h3⟩:=h;obtain ⟨w',hr,ho,hg⟩:=h1.store str_keyed ht (by unfold maxLen;omega) (d:=.held v) (ps:=[]) hk rfl
 refine ⟨w',hr,⟨D.put kl (.held v),?_,?_,?_⟩,hg.grown⟩
 · obtain ⟨es,clock,a1,a2,a3,a4⟩:=ho
   refine ⟨es,clock,a1,a2,?_,a4⟩;have hsz:=size_put (k:=kl) (h1.tidy str_keyed) (.held v);rw [(h3 x kl hk).1,h2] at hsz;rw [←hsz,a4];simp [size,length_sorted]
 · have hsz:=size_put (k:=kl) (h1.tidy str_keyed) (.held v)
   rw [(h3 x kl hk).1,h2] at hsz;exact hsz
 · intro y kl2 hk2
   by_cases hy:y=x
   · subst hy
     obtain rfl:kl=kl2:=Option.some.inj (hk.symm.trans hk2);simp only [if_pos];exact ⟨has_put_same h1.isMap (str_keyed.key hk) _,atKey_put_same h1.isMap (str_keyed.key hk) _ _⟩
   · have hne:kl2≠kl:=fun e0=>hy (str_keyed.inj hk2 (by rw [e0];exact hk))
     simp only [if_neg hy];rw [has_put_other hne,atKey_put_other hne];exact h3 y kl2 hk2
end
end Go.Proofs.YtahkcemdbfjilaaGreatDoor.Glob
namespace Go.Proofs.YtahkcemdbfjilaaGreatDoor.Glob
open Go.RowKit
def blkSet:Array Value:=Lib.setCells [32,9]
theorem blkSet_at (x:UInt8):blkSet[x.toNat]? = some (.bool (blk x)):=by
 unfold blkSet;rw [Lib.setCells_at];have:([32,9]:By).contains x=blk x:=by simp only [blk,List.contains,List.elem];cases x == 32<;>cases x == 9<;>rfl
 rw [this]
theorem blkSet_size:blkSet.size=256:=Lib.setCells_size _
theorem blkSet_one:blkSet.all (·.oneCell')=true:=Lib.setCells_one _
attribute [irreducible] blkSet
def SetAt (w:World) (g:Nat):Prop:=∀x:UInt8,w.cell? ⟨g,x.toNat,none⟩=some (.bool (blk x))
theorem SetAt.of {w:World} {g:Nat} (h:Has w g 203 blkSet):SetAt w g:=fun x=>by rw [h.at_];exact blkSet_at x
theorem setHas_any (g:Nat) (x:UInt8) (w:World) (h:SetAt w g):Calls Tryz.prog 179 #[.pointer (some ⟨g,0,none⟩),.int .u8 (b8 x)] w fun e w'=>e=.returned (.bool (blk x))∧w=w' :=
 (Tryz.asciiSet_contains g x (blk x) w (h x)).mono fun _ _ ⟨h1,h2⟩=>⟨h1,h2.symm⟩
theorem trimL_any (s:By) (g:Nat) (w:World) (hs:s.length≤100000) (hg:SetAt w g) :
 Calls Tryz.prog 142 #[.string (ba s),.pointer (some ⟨g,0,none⟩)] w fun e w'=>e=.returned (.string (ba (s.dropWhile blk)))∧w=w':=by
 have HG:=hid hg;clear hg;go_enter Tryz.func142,Tryz.ntmps142
 go_wp2;go_loopw [0] (fun s0 wr=>∃t:By,s0=.string (ba t)∧t.length≤100000∧Hid (s.dropWhile blk=t.dropWhile blk)∧w=wr)
  (fun s0 _=>match s0 with | .string x=>x.size | _=>0)
 case atStart=>exact ⟨s,rfl,hs,rfl,rfl⟩
 case round =>
  obtain ⟨t,rfl,hl,HE,rfl⟩:=hrel;have z:=ba_size t
  cases t with
  | nil =>
   have g0:¬((0:Int) < (([]:By).length:Int)):=by simp
   go_wp2;go_ret;exact ⟨by rw [HE.out];rfl,rfl⟩
  | cons x u =>
   have g0:(0:Int) < ((x :: u).length:Int):=by simp only [List.length_cons];omega
   have g1:(1:Int)≤((x :: u).length:Int):=by simp only [List.length_cons];omega
   have i0:∀W,(Instr.index 9 (.string (ba (x :: u))) (.int .i64 0)).run Tryz.prog W=.ok (.int .u8 (b8 x)) W:=idx0 (x :: u) (by simp)
   have zd:(ba (x :: u)).extract 1 (x :: u).length=ba u:=ba_drop (x :: u) 1;have HC:=hid (setHas_any g x w HG.out);have HD:Hid ((x :: u).dropWhile blk=if blk x then u.dropWhile blk else x :: u):=by show _=_;rw [List.dropWhile_cons]
   have HL:Hid (u.length≤100000∧u.length < (x :: u).length):=by simp only [List.length_cons] at hl ⊢;exact ⟨by omega,by omega⟩
   generalize blk x=b at HC HD;generalize (x :: u).length=n at z g0 g1 zd HL;generalize hX:ba (x :: u)=X at z i0 zd;clear hl
   cases b with
   | false =>
    go_wp2_with (go_at_call 179;refine HC.out.mono ?_;rintro e1 w1 ⟨rfl,rfl⟩)
    go_ret;refine ⟨?_,rfl⟩;rw [HE.out,HD.out,if_neg (by decide),hX];rfl
   | true =>
    go_wp2_with (go_at_call 179;refine HC.out.mono ?_;rintro e1 w1 ⟨rfl,rfl⟩)
    go_roundw
    case rel=>exact ⟨u,rfl,HL.out.1,by show _=_;rw [HE.out,HD.out];rfl,trivial⟩
    case measure =>
     show (ba u).size < X.size
     rw [ba_size,z];exact HL.out.2
theorem ba_mid (u:By) (x:UInt8):(ba (u++[x])).extract 0 u.length=ba u:=by rw [ba_take];simp
theorem trimR_snoc (u:By) (x:UInt8):trimR (u++[x])=if blk x then trimR u else u++[x]:=by
 unfold trimR;rw [List.reverse_append,List.reverse_singleton,List.singleton_append,List.dropWhile_cons];split
 · rfl
 · simp
theorem trimR_any (s:By) (g:Nat) (w:World) (hs:s.length≤100000) (hg:SetAt w g) :
 Calls Tryz.prog 143 #[.string (ba s),.pointer (some ⟨g,0,none⟩)] w fun e w'=>e=.returned (.string (ba (trimR s)))∧w=w':=by
 have HG:=hid hg;clear hg;go_enter Tryz.func143,Tryz.ntmps143
 go_wp2;go_loopw [0] (fun s0 wr=>∃t:By,s0=.string (ba t)∧t.length≤100000∧Hid (trimR s=trimR t)∧w=wr)
  (fun s0 _=>match s0 with | .string x=>x.size | _=>0)
 case atStart=>exact ⟨s,rfl,hs,rfl,rfl⟩
 case round =>
  obtain ⟨t,rfl,hl,HE,rfl⟩:=hrel;have z:=ba_size t;rcases List.eq_nil_or_concat t with rfl | ⟨u,x,rfl⟩
  · have g0:¬((0:Int) < (([]:By).length:Int)):=by simp
    go_wp2;go_ret;exact ⟨by rw [HE.out];rfl,rfl⟩
  · rw [List.concat_eq_append] at *
    have e0:(u++[x]).length=u.length+1:=by simp
    rw [e0] at z hl;have i0:∀W,(Instr.index 9 (.string (ba (u++[x]))) (.int .i64 (u.length:Int))).run Tryz.prog W=.ok (.int .u8 (b8 x)) W:=fun W=>by
     have:=index_str (u++[x]) u.length (by simp) W
     rw [this];simp [at8]
    have zd:(ba (u++[x])).extract 0 u.length=ba u:=ba_mid u x;have HC:=hid (setHas_any g x w HG.out);have HD:=hid (trimR_snoc u x);have zu:=ba_size u;generalize blk x=b at HC HD;generalize hX:ba (u++[x])=X at z i0 zd;generalize hn:u.length=n at z hl zd zu i0;have g0:(0:Int) < ((n+1:Nat):Int):=by omega
    have g1:((n+1:Nat):Int) - 1=(n:Int):=by omega
    have HN:=hid hl
    cases b with
    | false =>
     go_wp2_with (go_at_call 179;refine HC.out.mono ?_;rintro e1 w1 ⟨rfl,rfl⟩)
     go_ret;refine ⟨?_,rfl⟩;rw [HE.out,HD.out,if_neg (by decide),hX];rfl
    | true =>
     go_wp2_with (go_at_call 179;refine HC.out.mono ?_;rintro e1 w1 ⟨rfl,rfl⟩)
     go_roundw
     case rel=>exact ⟨u,rfl,by have:=HN.out;omega,by show _=_;rw [HE.out,HD.out];rfl,trivial⟩
     case measure =>
      show (ba u).size < X.size
      rw [zu,z];omega
theorem iSet:(Tryz.prog.info? 203).map (·.size)=some blkSet.size:=by rw [blkSet_size];kernel_rfl
theorem zeroSet:∀w,(zeroValue 203).run Tryz.prog w=.ok (.agg (Array.replicate 256 (.bool false))) w:=fun w=>by kernel_rfl
theorem mkSet_any (w:World):Calls Tryz.prog 141 #[.string ⟨#[32,9]⟩] w fun e w'=>e=.returned (.tuple #[.agg blkSet,.bool true])∧w'=w.alloc (.cells blkSet 203):=by
 have:=Tryz.strings_makeASCIISet zeroSet ⟨#[32,9]⟩ w (by decide) (fun j b h=>by
  have h2:([32,9]:By)[j]? = some b:=h;match j,h2 with
  | 0,h2=>simp at h2;subst h2;decide
  | 1,h2=>simp at h2;subst h2;decide
  | j+2,h2=>simp at h2)
 unfold blkSet;exact this
theorem zset_size:Tryz.zeroCells203.size=256:=by kernel_rfl
theorem trim_any (s:By) (w:World) (hs:s.length≤100000) :
 Calls Tryz.prog 91 #[.string (ba s),.string ⟨#[32,9]⟩] w fun e w'=>e=.returned (.string (ba (trimB s)))∧Below w.heap.size w w':=by
 have zs:=toList_ba s;by_cases h0:s=[]
 · subst h0
   go_enter Tryz.func91,Tryz.ntmps91
   go_wp2;go_ret;exact ⟨rfl,Below.refl _ _⟩
 · have hsne:¬((ba s).toList=[]):=by rw [zs];exact h0
   have HSN:=hid hsne;clear hsne;have HS:=hid hs;have HI:=hid iSet;have HZ:=hid zset_size;obtain ⟨W1,hW1⟩:∃W1,w.alloc (.cells blkSet 203)=W1:=⟨_,rfl⟩;have B1:Below w.heap.size w W1:=hW1▸(Below.refl _ _).alloc (Nat.le_refl _) _;have HM:Hid (Calls Tryz.prog 141 #[.string ⟨#[32,9]⟩] w fun e w'=>e=.returned (.tuple #[.agg blkSet,.bool true])∧W1=w'):=(mkSet_any w).mono fun _ _ ⟨h1,h2⟩=>⟨h1,by rw [h2,hW1]⟩
   have HB:=hid B1;clear hW1 B1 hs h0 zs;generalize hT:blkSet=cs at HM HI;go_enter Tryz.func91,Tryz.ntmps91
   go_wp2_with (first
    | (go_at_call 141;refine HM.out.mono ?_;rintro e1 w1 ⟨rfl,rfl⟩)
    | (refine wpList_store_row rfl 203 (.tmp 5) (.tmp 32) rfl W1.heap.size cs rfl rfl 203 Tryz.zeroCells203 (Has.fresh W1 203 Tryz.zeroCells203) HI.out (by rw [HZ.out,←hT,blkSet_size]) (by rw [←hT];exact blkSet_one) ?_
       generalize hG:World.setRow _ _ _=W2;have HA:Hid (SetAt W2 W1.heap.size∧Below w.heap.size w W2):=⟨SetAt.of (by rw [←hG,hT];exact (Has.fresh W1 203 Tryz.zeroCells203).row),by rw [←hG];exact ((HB.out.alloc HB.out.size _).rowG HB.out.size _)⟩
       clear hG)
    | (go_at_call 143;refine (trimR_any s _ _ HS.out HA.out.1).mono ?_;rintro e2 w2 ⟨rfl,rfl⟩)
    | (go_at_call 142;refine (trimL_any (trimR s) _ _ (Nat.le_trans (trimR_len s) HS.out) HA.out.1).mono ?_;rintro e3 w3 ⟨rfl,rfl⟩))
   · exact absurd (List.isEmpty_iff.1 ‹(ba s).toList.isEmpty=true›) HSN.out
   · go_ret
     exact ⟨rfl,HA.out.2⟩
theorem nl_any (s p q:By) (m:Bool) (h:Hid (cutN s=(p,q,m))) (w:World) (hG:Gd w) (hs:s.length≤100000) :
 Calls Tryz.prog 90 #[.string (ba s),.string ⟨#[10]⟩] w fun e w'=>e=.returned (.tuple #[.string (ba p),.string (ba q),.bool m])∧∃n,w'=w.drewN n:=by
 refine (Tryz.strings_Cut_shaped (ba s) ⟨#[10]⟩ w hG.1 (by rw [ba_size];omega)).mono fun e w' ⟨h1,h2⟩=>⟨?_,h2⟩
 have e2:Lib.cut (tl (ba s)) [10]=(p,q,m):=(cut_ten _).trans h.out;rw [h1];show Ending.returned (.tuple #[.string (ba (Lib.cut (tl (ba s)) [10]).1),.string (ba (Lib.cut (tl (ba s)) [10]).2.1),.bool (Lib.cut (tl (ba s)) [10]).2.2])=_
 rw [e2]
end Go.Proofs.YtahkcemdbfjilaaGreatDoor.Glob
namespace Go.Proofs.YtahkcemdbfjilaaGreatDoor.Glob
open Go.RowKit Go.Maps
def fcells (fs:Fl):List Value:=fs.flatMap fun f=>[.string (ba f.1),.string (ba f.2)]
theorem fcells_cons (f:By × By) (fs:Fl):fcells (f :: fs)=[.string (ba f.1),.string (ba f.2)]++fcells fs:=by simp [fcells]
theorem fcells_at (fs:Fl) (k:Nat) (h:k < fs.length):(fcells fs)[k*2]? = some (.string (ba fs[k].1))∧(fcells fs)[k*2+1]? = some (.string (ba fs[k].2)):=by
 induction fs generalizing k with
 | nil=>simp at h
 | cons r rs ih =>
  rw [fcells_cons]
  cases k with
  | zero=>simp
  | succ k =>
   simp only [List.length_cons] at h;have:=ih k (by omega)
   rw [show (k+1)*2=k*2+2 by omega,show k*2+2+1=(k*2+1)+2 by omega]
   simpa using this
def FilesIs (w:World) (v:Value) (fs:Fl):Prop:=∃(A:Option Addr) (c bb off:Nat),v=.slice A fs.length c∧(0 < fs.length→A=some ⟨bb,off,none⟩∧bb < w.heap.size) ∧
 ∀k (hk:k < fs.length),w.cell? ⟨bb,off+k*2,none⟩=some (.string (ba fs[k].1))∧w.cell? ⟨bb,off+k*2+1,none⟩=some (.string (ba fs[k].2))
theorem FilesIs.stays {w w':World} {v:Value} {fs:Fl} (h:FilesIs w v fs) (hb:Below w.heap.size w w'):FilesIs w' v fs:=by
 obtain ⟨A,c,bb,off,h1,h2,h3⟩:=h;refine ⟨A,c,bb,off,h1,fun h0=>⟨(h2 h0).1,Nat.lt_of_lt_of_le (h2 h0).2 hb.size⟩,fun k hk=>?_⟩
 have hg:=(h2 (by omega)).2
 exact ⟨(hb.cell (p:=⟨bb,off+k*2,none⟩) hg).trans (h3 k hk).1,(hb.cell (p:=⟨bb,off+k*2+1,none⟩) hg).trans (h3 k hk).2⟩
theorem FilesIs.form {w:World} {v:Value} {fs:Fl} (h:FilesIs w v fs):∃A c,v=.slice A fs.length c:=by
 obtain ⟨A,c,_,_,h1,_⟩:=h;exact ⟨A,c,h1⟩
theorem FilesIs.row {w:World} {v:Value} {fs:Fl} (h:FilesIs w v fs) (h0:0 < fs.length):∃g o c,v=.slice (some ⟨g,o,none⟩) fs.length c∧g < w.heap.size∧∀k (hk:k < fs.length),w.cell? ⟨g,o+k*2,none⟩=some (.string (ba fs[k].1))∧w.cell? ⟨g,o+k*2+1,none⟩=some (.string (ba fs[k].2)):=by
 obtain ⟨A,c,bb,off,h1,h2,h3⟩:=h;exact ⟨bb,off,c,by rw [h1,(h2 h0).1],(h2 h0).2,h3⟩
theorem FilesIs.of_own {w:World} {v:Value} {fs:Fl} (h:w.ownsRow 0 91 2 v fs.length (fcells fs)):FilesIs w v fs:=by
 obtain ⟨A,c,hv⟩:=own_form h;rcases Nat.eq_zero_or_pos fs.length with h0 | h0
 · exact ⟨A,c,0,0,hv,fun k=>absurd k (by omega),fun k hk=>absurd hk (by omega)⟩
 · obtain ⟨g,c,h1,_,h3,_,h5⟩:=own_cells h h0
   refine ⟨_,c,g,0,h1,fun _=>⟨rfl,h3⟩,fun k hk=>?_⟩
   rw [Nat.zero_add];exact ⟨h5 _ _ (fcells_at fs k hk).1,h5 _ _ (fcells_at fs k hk).2⟩
open Classical in
noncomputable def plF:Fl→Nat→Value→Option Value
 | [],_,_=>none
 | f :: fs,i,y=>if y=.string (ba f.1) then some (.int .i64 (i:Int)) else plF fs (i+1) y
open Classical in
theorem plF_snoc (fs:Fl) (f:By × By):∀i y,plF (fs++[f]) i y=match plF fs i y with | some v=>some v | none=>if y=.string (ba f.1) then some (.int .i64 ((i+fs.length:Nat):Int)) else none:=by
 induction fs with
 | nil=>intro i y;simp [plF]
 | cons r rs ih =>
  intro i y;rw [List.cons_append,plF,plF];by_cases h:y=.string (ba r.1)
  · rw [if_pos h,if_pos h]
  · rw [if_neg h,if_neg h,ih,List.length_cons,show i+1+rs.length=i+(rs.length+1) by omega]
theorem ba_str {a b:By}:Value.string (ba a)=.string (ba b)↔a=b:=⟨fun h=>ba_inj (by simpa using h),fun h=>by rw [h]⟩
theorem plF_none {fs:Fl} {name:By} (h:findF fs name=none):∀i,plF fs i (.string (ba name))=none:=by
 induction fs with
 | nil=>intro i;rfl
 | cons r rs ih =>
  intro i;unfold findF at h;rw [List.find?_cons] at h
  cases hr:r.1 == name with
  | true=>rw [hr] at h;cases h
  | false =>
   rw [hr] at h;unfold plF;rw [if_neg (fun e=>by rw [ba_str] at e;simp [e] at hr)]
   exact ih h (i+1)
theorem plF_some {fs:Fl} {name t:By} (h:findF fs name=some t):∀i,∃k,∃hk:k < fs.length,plF fs i (.string (ba name))=some (.int .i64 ((i+k:Nat):Int))∧fs[k].2=t:=by
 induction fs with
 | nil=>intro i;cases h
 | cons r rs ih =>
  intro i;unfold findF at h;rw [List.find?_cons] at h
  cases hr:r.1 == name with
  | true =>
   rw [hr] at h;simp only [Option.some.injEq] at h;refine ⟨0,by simp,?_,h⟩
   unfold plF;rw [if_pos (by rw [ba_str];exact (beq_iff_eq.1 hr).symm)]
   simp
  | false =>
   rw [hr] at h;obtain ⟨k,hk,h1,h2⟩:=ih h (i+1);refine ⟨k+1,by simp;omega,?_,by simpa using h2⟩
   unfold plF;rw [if_neg (fun e=>by rw [ba_str] at e;simp [e] at hr),h1,show i+1+k=i+(k+1) by omega]
theorem zero_int (w:World):(zeroValue 3).run Tryz.prog w=.ok (.int .i64 0) w:=by kernel_rfl
open Classical in
theorem plF_skip {fs:Fl} {k:Nat} (hk:k < fs.length) {v:Value} (h:plF (fs.take k) 0 (.string (ba fs[k].1))=some v):plF (fs.take (k+1)) 0=plF (fs.take k) 0:=by
 funext y
 rw [List.take_succ_eq_append_getElem hk,plF_snoc]
 cases hy:plF (fs.take k) 0 y with
 | some u=>rfl
 | none =>
  simp only;rw [if_neg];intro e;rw [e,h] at hy
  cases hy
open Classical in
theorem plF_put {fs:Fl} {k:Nat} (hk:k < fs.length) (h:plF (fs.take k) 0 (.string (ba fs[k].1))=none):(fun y=>if y=Value.string (ba fs[k].1) then some (Value.int .i64 (k:Int)) else plF (fs.take k) 0 y)=plF (fs.take (k+1)) 0:=by
 funext y
 rw [List.take_succ_eq_append_getElem hk,plF_snoc];by_cases e:y=.string (ba fs[k].1)
 · rw [if_pos e,e,h]
   simp only [if_true];rw [List.length_take,Nat.min_eq_left (by omega),Nat.zero_add]
 · rw [if_neg e]
   cases plF (fs.take k) 0 y with
   | some u=>rfl
   | none=>simp only;rw [if_neg e]
set_option maxHeartbeats 1000000 in
theorem places_any (v:Value) (fs:Fl) (w:World) (hf:FilesIs w v fs) (hn:fs.length≤1000) (hl:∀k (hk:k < fs.length),fs[k].1.length≤100000) :
 Calls Tryz.prog 41 #[v] w fun e w'=>(∃b c,e=.returned (.map (some b))∧w.heap.size≤b∧MapZ w' (.int .i64 0) b c (plF fs 0))∧Below w.heap.size w w':=by
 have hmm:=@run_makeMap Tryz.prog;have HF:=hid hf;have HL:=hid hl;have HN:=hid hn;obtain ⟨n,HNL⟩:∃n,Hid (fs.length=n):=⟨_,rfl⟩;obtain ⟨A,cp,hv⟩:=hf.form;rw [HNL.out] at hv hn;subst hv;obtain ⟨W1,hW1⟩:∃W1,w.alloc (.map #[] 0)=W1:=⟨_,rfl⟩;have HM1:Hid (MapZ W1 (.int .i64 0) w.heap.size 0 (plF (fs.take 0) 0)):=hW1▸MapZ.made w _;have HB1:Hid (Below w.heap.size w W1):=hW1▸(Below.refl _ _).alloc (Nat.le_refl _) _;have HW:Hid (w.heap.size < W1.heap.size):=by show _ < _;rw [←hW1];simp
 clear hf hl;go_enter Tryz.func41,Tryz.ntmps41
 go_wp2;go_loopw [11] (fun i wr=>∃(k c:Nat),i=.int .i64 (k:Int)∧k≤n∧c≤k∧Hid (MapZ wr (.int .i64 0) w.heap.size c (plF (fs.take k) 0))∧Hid (Below w.heap.size w wr))
  (fun i _=>n - (intOf i).toNat)
 case atStart=>exact ⟨0,0,rfl,by omega,Nat.le_refl _,HM1,HB1⟩
 case round =>
  obtain ⟨k,c,rfl,hk,hc,HM,HB⟩:=hrel;by_cases hlt:k < n
  · have hlt2:k < fs.length:=by rw [HNL.out];exact hlt
    obtain ⟨g,o0,cp2,hve,hg,hcell⟩:=HF.out.row (by omega)
    rw [HNL.out] at hve;simp only [Value.slice.injEq,true_and] at hve;obtain ⟨rfl,rfl⟩:=hve;have c0:=(HB.out.cell (p:=⟨g,o0+k*2,none⟩) hg).trans (hcell k hlt2).1;have c1:=(HB.out.cell (p:=⟨g,o0+k*2+1,none⟩) hg).trans (hcell k hlt2).2;have HK:=hid (str_key fs[k].1 (by have:=HL.out k hlt2;unfold maxLen;omega))
    obtain ⟨Wa,hWa⟩:∃Wa,wr.alloc (.cells #[.string (ba fs[k].1),.string (ba fs[k].2)] 91)=Wa:=⟨_,rfl⟩;have HBa:Hid (Below w.heap.size w Wa):=hWa▸HB.out.alloc HB.out.size _;have HMa:Hid (MapZ Wa (.int .i64 0) w.heap.size c (plF (fs.take k) 0)):=hWa▸HM.out.kept ((Below.refl wr.heap.size wr).alloc (Nat.le_refl _) _ |>.block _ HM.out.inside)
    have hlook:=HMa.out.lookOk Tryz.underlying101 (zero_int _) HK.out;have a0:Wa.cell? ⟨wr.heap.size,0,none⟩=some (.string (ba fs[k].1)):=hWa▸(Has.fresh wr 91 _).at_ 0
    cases hp:plF (fs.take k) 0 (.string (ba fs[k].1)) with
    | some u =>
     rw [hp] at hlook;simp only [Option.getD_some,Option.isSome_some] at hlook;have HS:=hid (plF_skip hlt2 hp);generalize fs[k].1=nm at c0 hlook a0 hWa;generalize fs[k].2=tx at c1 hWa;clear hp hcell;go_wp2;exact ⟨⟨k+1,c,by go_num,by omega,by omega,by rw [HS.out];exact HMa,HBa⟩,by simp [intOf];omega⟩
    | none =>
     obtain ⟨Wb,hst,hmb,hgb⟩:=HMa.out.store Tryz.underlying101 (by omega) (v:=.int .i64 (k:Int)) HK.out
     rw [hp] at hlook;simp only [Option.getD_none,Option.isSome_none] at hlook;rw [plF_put hlt2 hp,hp] at hmb;have HMb:=hid hmb;have HBb:Hid (Below w.heap.size w Wb):=grown_below hgb HBa.out (fun j hj=>by simp at hj;omega) HBa.out.size
     generalize fs[k].1=nm at c0 hlook a0 hWa hst;generalize fs[k].2=tx at c1 hWa;clear hp hcell hmb hgb;go_wp2;exact ⟨⟨k+1,c+1,by go_num,by omega,by omega,HMb,HBb⟩,by simp [intOf];omega⟩
  · have HK:Hid (k=fs.length):=by show _=_;rw [HNL.out];omega
    have HM2:Hid (MapZ wr (.int .i64 0) w.heap.size c (plF fs 0)):=by have:=HM.out;rw [HK.out,List.take_length] at this;exact this
    go_wp2;go_ret;exact ⟨⟨_,c,rfl,Nat.le_refl _,HM2.out⟩,HB.out⟩
end Go.Proofs.YtahkcemdbfjilaaGreatDoor.Glob
