/- Several texts in one. Conditions: those said at each. -/
import Derived.Maps.OwnSet
import Derived.Maps.RangeWalk
import Derived.Sort.KeysCollected
import Derived.WideKeyEntry
import Derived.Shelf.SlMaps.Clone
import Derived.Test.YtahkcemdbfjilaaGreatDoorIt03
set_option linter.unusedSimpArgs false
set_option linter.unusedVariables false
set_option maxRecDepth 100000
namespace Go.Proofs.YtahkcemdbfjilaaGreatDoor
open Go.RowKit Go.Maps Go.MapKept Go.WideElems
open Go.ChangeMaps (setBlock heap_setBlock_same heap_setBlock_other)
abbrev kS (s:By):Value:=.string (ba s)
def nodeV (n:Nd):Value:=.agg #[.int .i64 n.kind,kS n.data,kS n.target,.int .i64 n.time]
def Rv (v:Value):Option (DataW Value × List MemPlace):=some (.held v,[])
theorem str_keyed:Keyed Tryz.prog 9:=string_keyed Tryz.underlying9
theorem str_law:WideMaps.KeyLaw Tryz.prog 9:=WideMaps.string_law Tryz.underlying9
theorem str_key (s:By) (hs:s.length≤maxLen):keyOf Tryz.prog 9 (kS s)=some (.string s):=by
 rw [keyOf_string Tryz.underlying9];simp [mapKey,Tryz.underlying9,ba_size,hs];rfl
theorem node_zero (w:World):(zeroValue 71).run Tryz.prog w=.ok (nodeV n0) w:=by kernel_rfl
structure ObjT (es:Array MapEntry) (clock:Nat) (L:Tr):Prop where
 fit:Fit Tryz.prog 9 Rv es clock
 size:es.size=L.length
 reads:∀p:By,p.length≤maxLen→has (DataW.map ((es.toList.map (rg Tryz.prog 9 Rv)).foldr DataW.insert [])) (.string p)=(look L p).isSome∧(DataW.map ((es.toList.map (rg Tryz.prog 9 Rv)).foldr DataW.insert [])).atKey (.string p) (.held (nodeV n0))=.held (nodeV ((look L p).getD n0))
def MapT (w:World) (b:Nat) (L:Tr):Prop:=∃es clock,w.heap[b]? = some (.map es clock)∧ObjT es clock L
theorem MapT.kept {w w':World} {b:Nat} {L:Tr} (h:MapT w b L) (he:w'.heap[b]? = w.heap[b]?):MapT w' b L:=by
 obtain ⟨es,clock,h1,h2⟩:=h;exact ⟨es,clock,he.trans h1,h2⟩
theorem MapT.inside {w:World} {b:Nat} {L:Tr} (h:MapT w b L):b < w.heap.size:=by
 obtain ⟨es,clock,h1,_⟩:=h;exact (Array.getElem?_eq_some_iff.1 h1).1
theorem MapT.own {w:World} {b:Nat} {L:Tr} (h:MapT w b L):∃D,w.ownsMap Tryz.prog 9 Rv b L.length D∧size D=L.length∧∀p:By,p.length≤maxLen→has D (.string p)=(look L p).isSome∧D.atKey (.string p) (.held (nodeV n0))=.held (nodeV ((look L p).getD n0)):=by
 obtain ⟨es,clock,h1,h2⟩:=h;exact ⟨_,⟨es,clock,h1,h2.fit,by rw [h2.size];exact Nat.le_refl _,rfl⟩,by simp [size,length_sorted,h2.size],h2.reads⟩
theorem MapT.of_own {w:World} {b n:Nat} {L:Tr} {D:DataW Value} (h:w.ownsMap Tryz.prog 9 Rv b n D) (hs:size D=L.length) (hr:∀p:By,p.length≤maxLen→has D (.string p)=(look L p).isSome∧D.atKey (.string p) (.held (nodeV n0))=.held (nodeV ((look L p).getD n0))):MapT w b L:=by
 obtain ⟨es,clock,h1,h2,_,rfl⟩:=h;refine ⟨es,clock,h1,h2,?_,hr⟩;have e:size (DataW.map ((es.toList.map (rg Tryz.prog 9 Rv)).foldr DataW.insert []))=es.size:=by simp [size,length_sorted]
 omega
theorem MapT.made (w:World):MapT (w.alloc (.map #[] 0)) w.heap.size [] :=
 .of_own (World.ownsMap_made w _ 9 Rv) rfl (fun _ _=>⟨rfl,rfl⟩)
section
variable {w:World} {b:Nat} {L:Tr}
theorem MapT.look (h:MapT w b L) {p:By} (hp:p.length≤maxLen):(Instr.lookup 124 (.map (some b)) (kS p) false).run Tryz.prog w=.ok (nodeV ((look L p).getD n0)) w:=by
 obtain ⟨D,h1,_,h3⟩:=h.own;obtain ⟨v,ps,hr,hv⟩:=h1.lookup str_keyed Tryz.underlying124 (node_zero w) (zd:=.held (nodeV n0)) (zp:=[]) rfl (str_key p hp);rw [(h3 p hp).2] at hv;simp only [Rv,Option.some.injEq,Prod.mk.injEq,DataW.held.injEq] at hv;rw [hr,hv.1]
theorem MapT.lookOk (h:MapT w b L) {p:By} (hp:p.length≤maxLen):(Instr.lookup 124 (.map (some b)) (kS p) true).run Tryz.prog w=.ok (.tuple #[nodeV ((Go.Proofs.YtahkcemdbfjilaaGreatDoor.look L p).getD n0),.bool (Go.Proofs.YtahkcemdbfjilaaGreatDoor.look L p).isSome]) w:=by
 obtain ⟨D,h1,_,h3⟩:=h.own;obtain ⟨v,ps,hr,hv⟩:=h1.look_ok str_keyed Tryz.underlying124 (node_zero w) (zd:=.held (nodeV n0)) (zp:=[]) rfl (str_key p hp);rw [(h3 p hp).2] at hv;simp only [Rv,Option.some.injEq,Prod.mk.injEq,DataW.held.injEq] at hv;rw [hr,hv.1,(h3 p hp).1]
theorem put_reads {L:Tr} (hs:Srt L) {D D':DataW Value} {p:By} {n:Nd} (hD:D'=D.put (.string p) (.held (nodeV n))) (hm:IsMap D) (ht:Tidy D) (h2:size D=L.length) (hp:p.length≤maxLen)
 (h3:∀p:By,p.length≤maxLen→has D (.string p)=(Go.Proofs.YtahkcemdbfjilaaGreatDoor.look L p).isSome∧D.atKey (.string p) (.held (nodeV n0))=.held (nodeV ((Go.Proofs.YtahkcemdbfjilaaGreatDoor.look L p).getD n0))) :
 size D'=(ins p n L).length∧∀q:By,q.length≤maxLen→has D' (.string q)=(Go.Proofs.YtahkcemdbfjilaaGreatDoor.look (ins p n L) q).isSome∧D'.atKey (.string q) (.held (nodeV n0))=.held (nodeV ((Go.Proofs.YtahkcemdbfjilaaGreatDoor.look (ins p n L) q).getD n0)):=by
 subst hD;have hK:WideAt.IsKeyLit (.string p):=trivial;refine ⟨?_,?_⟩
 · rw [size_put ht,(h3 p hp).1,h2,len_ins hs]
 · intro q hq
   rw [look_ins];by_cases e:q=p
   · subst e
     rw [if_pos rfl];exact ⟨has_put_same hm hK _,atKey_put_same hm hK _ _⟩
   · rw [if_neg e]
     have hne:Lit.string q≠Lit.string p:=fun k=>e (by injection k)
     rw [has_put_other hne,atKey_put_other hne];exact h3 q hq
theorem MapT.store (h:MapT w b L) (hs:Srt L) (hc:L.length < 1000000000) {p:By} (hp:p.length≤maxLen) (n:Nd) :
 ∃w',(Instr.mapUpdate 124 (.map (some b)) (kS p) (nodeV n)).run Tryz.prog w=.ok () w'∧MapT w' b (ins p n L)∧w.grownBy w' (some b):=by
 obtain ⟨D,h1,h2,h3⟩:=h.own;obtain ⟨w',hr,ho,hg⟩:=h1.update str_keyed Tryz.underlying124 (by unfold maxLen;omega) (d:=.held (nodeV n)) (ps:=[]) (str_key p hp) rfl
 obtain ⟨a1,a2⟩:=put_reads hs rfl h1.isMap (h1.tidy str_keyed) h2 hp h3;exact ⟨w',hr,.of_own ho a1 a2,hg⟩
theorem MapT.entry (h:MapT w b L) (hs:Srt L) (hc:L.length < 1000000000) {p:By} (hp:p.length≤maxLen) (n:Nd) :
 ∃v0 st w1,(Instr.mapEntry 124 (.map (some b)) (kS p)).run Tryz.prog w=.ok (.tuple #[v0,goInt st]) w1∧w.grownBy w1 (some b) ∧
  ∀w2:World,w2.heap[b]? = w1.heap[b]?→∃w3,(Instr.entryStore 124 (.map (some b)) (goInt st) (nodeV n)).run Tryz.prog w2=.ok () w3∧MapT w3 b (ins p n L)∧w2.grownBy w3 (some b):=by
 obtain ⟨w',hr,hm,_⟩:=h.store hs hc hp n;obtain ⟨es,clock,hb,hO⟩:=h;obtain ⟨v0,st,es1,clock1,h1,_,h2⟩:=entry_then_store str_law Tryz.underlying124 (z:=nodeV n0) node_zero hb hO.fit (str_key p hp);refine ⟨v0,st,_,h1,⟨rfl,rfl,rfl,by simp [setBlock],fun i _ hi=>heap_setBlock_other hb _ (fun e=>hi (by rw [e]))⟩,fun w2 hw2=>?_⟩
 have hw2':w2.heap[b]? = some (.map es1 clock1):=hw2.trans (heap_setBlock_same hb _);obtain ⟨es',clock',h3,h4⟩:=h2 w2 (nodeV n) hw2';refine ⟨_,h3,?_,⟨rfl,rfl,rfl,by simp [setBlock],fun i _ hi=>heap_setBlock_other hw2' _ (fun e=>hi (by rw [e]))⟩⟩
 have e:w'=setBlock w b (.map es' clock'):=by
  have:=hr.symm.trans h4;injection this
 obtain ⟨es2,ck2,h5,h6⟩:=hm;rw [e,heap_setBlock_same hb] at h5;injection h5 with h5;injection h5 with h7 h8;subst h7 h8;exact ⟨_,_,heap_setBlock_same hw2' _,h6⟩
end
end Go.Proofs.YtahkcemdbfjilaaGreatDoor
namespace Go.Proofs.YtahkcemdbfjilaaGreatDoor
open Go.RowKit Go.Maps
structure TreeS (w:World) (g o m:Nat) (t:TypeId) (cs:Array Value) (L:Tr) (u room:Nat):Prop where
 has:Has w g t cs
 k0:cs[o]? = some (.map (some m))
 k1:cs[o+1]? = some (.int .i64 (u:Int))
 k2:cs[o+2]? = some (.int .i64 (room:Int))
 mp:MapT w m L
 srt:Srt L
 ne:m≠g
 len:L.length≤100000
section
variable {w:World} {g o m:Nat} {t:TypeId} {cs:Array Value} {L:Tr} {u room:Nat}
theorem TreeS.c0 (h:TreeS w g o m t cs L u room):w.cell? ⟨g,o,none⟩=some (.map (some m)):=(h.has.at_ _).trans h.k0
theorem TreeS.c1 (h:TreeS w g o m t cs L u room):w.cell? ⟨g,o+1,none⟩=some (.int .i64 (u:Int)):=(h.has.at_ _).trans h.k1
theorem TreeS.c2 (h:TreeS w g o m t cs L u room):w.cell? ⟨g,o+2,none⟩=some (.int .i64 (room:Int)):=(h.has.at_ _).trans h.k2
theorem TreeS.kept {w':World} (h:TreeS w g o m t cs L u room) (hg:w'.heap[g]? = w.heap[g]?) (hm:w'.heap[m]? = w.heap[m]?):TreeS w' g o m t cs L u room :=
 ⟨hg.trans h.has,h.k0,h.k1,h.k2,h.mp.kept hm,h.srt,h.ne,h.len⟩
theorem TreeS.on {w':World} {B:Nat} (h:TreeS w g o m t cs L u room) (hb:Below B w w') (hB:w.heap.size≤B):TreeS w' g o m t cs L u room :=
 h.kept (hb.block g (Nat.lt_of_lt_of_le h.has.inside hB)) (hb.block m (Nat.lt_of_lt_of_le h.mp.inside hB))
end
def hasB (L:Tr) (p:By):Bool:=(look L p).isSome
def isDirB (L:Tr) (p:By):Bool:=decide (kindP L p=2)
theorem maxLen_le {n:Nat} (h:n≤4000):n≤maxLen:=by unfold maxLen;omega
theorem field_kind (n:Nd) (w:World):(Instr.field 71 (nodeV n) 0).run Tryz.prog w=.ok (.int .i64 n.kind) w:=by kernel_rfl
theorem field_data (n:Nd) (w:World):(Instr.field 71 (nodeV n) 1).run Tryz.prog w=.ok (kS n.data) w:=by kernel_rfl
set_option maxHeartbeats 2000000 in
theorem thas_any {w:World} {g o m:Nat} {t:TypeId} {cs:Array Value} {L:Tr} {u room:Nat} (h:TreeS w g o m t cs L u room) (p:By) (hp:p.length≤4000) :
 Calls Tryz.prog 106 #[.pointer (some ⟨g,o,none⟩),kS p] w fun e w'=>e=.returned (.bool (hasB L p))∧Below w.heap.size w w':=by
 have c0:=h.c0;have hl:=h.mp.lookOk (p:=p) (maxLen_le hp);obtain ⟨b,HB⟩:∃b,Hid ((look L p).isSome=b):=⟨_,rfl⟩;obtain ⟨⟨k,d,x,tm⟩,HV⟩:∃v,Hid ((look L p).getD n0=v):=⟨_,rfl⟩;rw [HB.out,HV.out] at hl;simp only [nodeV] at hl;clear h;go_enter Tryz.func106,Tryz.ntmps106
 go_wp2;go_ret;exact ⟨by rw [←HB.out];rfl,(Below.refl _ _).alloc (Nat.le_refl _) _⟩
set_option maxHeartbeats 2000000 in
theorem tisDir_any {w:World} {g o m:Nat} {t:TypeId} {cs:Array Value} {L:Tr} {u room:Nat} (h:TreeS w g o m t cs L u room) (p:By) (hp:p.length≤4000) :
 Calls Tryz.prog 187 #[.pointer (some ⟨g,o,none⟩),kS p] w fun e w'=>e=.returned (.bool (isDirB L p))∧w=w':=by
 have c0:=h.c0;have hl:=h.mp.look (p:=p) (maxLen_le hp);clear h;by_cases hp0:p=[]
 · have HP:=hid hp0
   have e1:(ba p).toList=[]:=by rw [toList_tl,tl_ba,hp0]
   clear hp0;go_enter Tryz.func187,Tryz.ntmps187
   go_wp2;go_ret;exact ⟨by rw [HP.out];rfl,rfl⟩
 · obtain ⟨⟨k,d,x,tm⟩,HV⟩:∃v,Hid ((look L p).getD n0=v):=⟨_,rfl⟩
   rw [HV.out] at hl;have hf:=field_kind ⟨k,d,x,tm⟩;simp only at hf;have hk:Hid (isDirB L p=(k == 2)):=by
    show _=_
    have:=HV.out;unfold isDirB kindP;rw [if_neg hp0]
    cases hq:look L p with
    | none=>rw [hq] at this;simp only [Option.getD_none] at this;injection this with h1;subst h1;rfl
    | some n=>rw [hq] at this;simp only [Option.getD_some] at this;rw [this];rfl
   have e1:¬(ba p).toList=[]:=by rw [toList_tl,tl_ba];exact hp0
   have e2:(ba p).toList.isEmpty=false:=by simpa using e1
   clear hp0 HV;go_enter Tryz.func187,Tryz.ntmps187
   go_wp2;go_ret;exact ⟨by rw [hk.out];rfl,rfl⟩
set_option maxHeartbeats 2000000 in
theorem tnoDir_any {w:World} {g o m:Nat} {t:TypeId} {cs:Array Value} {L:Tr} {u room:Nat} (h:TreeS w g o m t cs L u room) (p:By) (hp:p.length≤4000) :
 Calls Tryz.prog 150 #[.pointer (some ⟨g,o,none⟩),kS p] w fun e w'=>e=.returned (.int .i64 (noDirE L p))∧Below w.heap.size w w':=by
 obtain ⟨a,HA⟩:∃a,Hid (isDirB L p=a):=⟨_,rfl⟩;obtain ⟨b,HB⟩:∃b,Hid (hasB L p=b):=⟨_,rfl⟩;have C1:Hid (Calls Tryz.prog 187 #[.pointer (some ⟨g,o,none⟩),kS p] w fun e w'=>e=.returned (.bool a)∧w=w'):=by rw [←HA.out];exact tisDir_any h p hp
 have C2:Hid (Calls Tryz.prog 106 #[.pointer (some ⟨g,o,none⟩),kS p] w fun e w'=>e=.returned (.bool b)∧Below w.heap.size w w'):=by rw [←HB.out];exact thas_any h p hp
 have HE:Hid (noDirE L p=if a then 0 else if b then 12 else 5):=by
  show _=_
  rw [←HA.out,←HB.out];unfold noDirE isDirB hasB;by_cases k:kindP L p=2
  · simp [k]
  · simp [k]
 clear h
 cases a with
 | true =>
  go_enter Tryz.func150,Tryz.ntmps150
  go_wp2_with (go_at_call 187;refine C1.out.mono ?_;rintro e1 w1 ⟨rfl,rfl⟩)
  go_ret;exact ⟨by rw [HE.out];rfl,Below.refl _ _⟩
 | false =>
  cases b with
  | true =>
   go_enter Tryz.func150,Tryz.ntmps150
   go_wp2_with (first
    | (go_at_call 187;refine C1.out.mono ?_;rintro e1 w1 ⟨rfl,rfl⟩)
    | (go_at_call 106;refine C2.out.mono ?_;rintro e2 w2 ⟨rfl,hb2⟩;have B2:=hid hb2;clear hb2))
   go_ret;exact ⟨by rw [HE.out];rfl,B2.out⟩
  | false =>
   go_enter Tryz.func150,Tryz.ntmps150
   go_wp2_with (first
    | (go_at_call 187;refine C1.out.mono ?_;rintro e1 w1 ⟨rfl,rfl⟩)
    | (go_at_call 106;refine C2.out.mono ?_;rintro e2 w2 ⟨rfl,hb2⟩;have B2:=hid hb2;clear hb2))
   go_ret;exact ⟨by rw [HE.out];rfl,B2.out⟩
set_option maxHeartbeats 2000000 in
theorem tnoHome_any {w:World} {g o m:Nat} {t:TypeId} {cs:Array Value} {L:Tr} {u room:Nat} (h:TreeS w g o m t cs L u room) (hG:Gd w) (p:By) (hp:p.length≤4000) (hm:mayB p=true) :
 Calls Tryz.prog 135 #[.pointer (some ⟨g,o,none⟩),kS p] w fun e w'=>e=.returned (.int .i64 (homeE L p))∧Below w.heap.size w w':=by
 have C1:Hid (Calls Tryz.prog 31 #[kS p] w fun e w'=>e=.returned (.tuple #[kS (aheadL p),.bool true])∧Below w.heap.size w w'):=by
  have:=parent_any (ba p) w hG (by rw [ba_size];exact hp)
  rw [tl_ba,findV_yes hm,hm] at this;exact this
 have C2:Hid (∀w',Below w.heap.size w w'→Calls Tryz.prog 150 #[.pointer (some ⟨g,o,none⟩),kS (aheadL p)] w' fun e w2=>e=.returned (.int .i64 (homeE L p))∧Below w'.heap.size w' w2) :=
  fun w' hb=>tnoDir_any (h.on hb (Nat.le_refl _)) _ (Nat.le_trans (aheadL_len p) hp)
 clear h hG;go_enter Tryz.func135,Tryz.ntmps135
 go_wp2_with fail
 refine C1.out.mono ?_;rintro e1 w1 ⟨rfl,hb1⟩;have B1:=hid hb1;clear hb1;go_wp2_with fail
 refine (C2.out _ B1.out).mono ?_;rintro e2 w2 ⟨rfl,hb2⟩;have B2:=hid (B1.out.trans (hb2.mono B1.out.size));clear hb2;go_wp2;go_ret;exact ⟨rfl,B2.out⟩
set_option maxHeartbeats 2000000 in
theorem ttaken_any {w:World} {g o m:Nat} {t:TypeId} {cs:Array Value} {L:Tr} {u room:Nat} (h:TreeS w g o m t cs L u room) (p:By) (hp:p.length≤4000) :
 Calls Tryz.prog 136 #[.pointer (some ⟨g,o,none⟩),kS p] w fun e w'=>e=.returned (.int .i64 (takenE L p))∧w=w':=by
 have c0:=h.c0;have hl:=h.mp.look (p:=p) (maxLen_le hp);clear h;obtain ⟨⟨k,d,x,tm⟩,HV⟩:∃v,Hid ((look L p).getD n0=v):=⟨_,rfl⟩;rw [HV.out] at hl;have hf:=field_kind ⟨k,d,x,tm⟩;simp only at hf;have hk:Hid (takenE L p=if k=2 then 12 else if k=3 then 11 else 0):=by
  show _=_
  have:=HV.out;unfold takenE
  cases hq:look L p with
  | none=>rw [hq] at this;simp only [Option.getD_none] at this;injection this with h1;subst h1;rfl
  | some n=>rw [hq] at this;simp only [Option.getD_some] at this;rw [this]
 clear HV;by_cases k2:k=2
 · have q1:(k == 2)=true:=by simpa using k2
   have HK:=hid k2;clear k2;go_enter Tryz.func136,Tryz.ntmps136
   go_wp2;go_ret;exact ⟨by rw [hk.out,if_pos HK.out];rfl,rfl⟩
 · have q1:(k == 2)=false:=by simpa using k2
   by_cases k3:k=3
   · have q2:(k == 3)=true:=by simpa using k3
     have HK:=hid k3;have HK2:=hid k2;clear k3 k2;go_enter Tryz.func136,Tryz.ntmps136
     go_wp2;go_ret;exact ⟨by rw [hk.out,if_neg HK2.out,if_pos HK.out];rfl,rfl⟩
   · have q2:(k == 3)=false:=by simpa using k3
     have HK:=hid k3;have HK2:=hid k2;clear k3 k2;go_enter Tryz.func136,Tryz.ntmps136
     go_wp2;go_ret;exact ⟨by rw [hk.out,if_neg HK2.out,if_neg HK.out];rfl,rfl⟩
set_option maxHeartbeats 2000000 in
theorem tuse_any {w:World} {g o m:Nat} {t:TypeId} {cs:Array Value} {L:Tr} {u room:Nat} (h:TreeS w g o m t cs L u room) (p:By) (hp:p.length≤4000) (hd:useP L p≤100000000) :
 Calls Tryz.prog 177 #[.pointer (some ⟨g,o,none⟩),kS p] w fun e w'=>e=.returned (.int .i64 ((useP L p:Nat):Int))∧Below w.heap.size w w':=by
 obtain ⟨b,HB⟩:∃b,Hid (hasB L p=b):=⟨_,rfl⟩;have C2:Hid (Calls Tryz.prog 106 #[.pointer (some ⟨g,o,none⟩),kS p] w fun e w'=>e=.returned (.bool b)∧Below w.heap.size w w'):=by rw [←HB.out];exact thas_any h p hp
 obtain ⟨⟨k,d,x,tm⟩,HV⟩:∃v,Hid ((look L p).getD n0=v):=⟨_,rfl⟩;have C0:Hid (∀w',Below w.heap.size w w'→w'.cell? ⟨g,o,none⟩=some (.map (some m))∧(Instr.lookup 124 (.map (some m)) (kS p) false).run Tryz.prog w'=.ok (nodeV ⟨k,d,x,tm⟩) w'):=by
  intro w' hb;have h':=h.on hb (Nat.le_refl _);have:=h'.mp.look (p:=p) (maxLen_le hp);rw [HV.out] at this;exact ⟨h'.c0,this⟩
 have hf:=field_data ⟨k,d,x,tm⟩;simp only at hf;have HE:Hid (useP L p=if b then 64+d.length else 0):=by
  show _=_
  rw [←HB.out];have:=HV.out;unfold useP hasB
  cases hq:look L p with
  | none=>rfl
  | some n=>rw [hq] at this;simp only [Option.getD_some] at this;rw [this];rfl
 clear h
 cases b with
 | false =>
  go_enter Tryz.func177,Tryz.ntmps177
  go_wp2_with (go_at_call 106;refine C2.out.mono ?_;rintro e2 w2 ⟨rfl,hb2⟩;have B2:=hid hb2;clear hb2)
  go_ret;exact ⟨by rw [HE.out];rfl,B2.out⟩
 | true =>
  have hz:d.length≤100000000:=by have:=HE.out;simp only [if_pos] at this;omega
  have hz1:(ba d).size=d.length:=ba_size d;have hz2:(ba d).size≤100000000:=by omega
  have HZ:=hid hz1;clear hz1 hz hd;go_enter Tryz.func177,Tryz.ntmps177
  go_wp2_with fail
  refine C2.out.mono ?_;rintro e2 w2 ⟨rfl,hb2⟩;have B2:=hid hb2;clear hb2;obtain ⟨c0,hl⟩:=C0.out _ B2.out;go_wp2;go_ret;refine ⟨?_,B2.out⟩;have hE:useP L p=64+(ba d).size:=by have:=HE.out;simp only [if_true] at this;rw [this,HZ.out]
  rw [hE];exact ret_i64 (by simp)
end Go.Proofs.YtahkcemdbfjilaaGreatDoor
