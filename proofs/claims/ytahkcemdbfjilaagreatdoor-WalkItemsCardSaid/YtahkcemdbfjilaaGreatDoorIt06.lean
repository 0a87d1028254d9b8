/- Several texts in one. Conditions: those said at each. -/
import Derived.Maps.AppendAt
import Derived.Laws.AppendOwn
import Derived.Test.YtahkcemdbfjilaaGreatDoorIt05
set_option linter.unusedSimpArgs false
set_option linter.unusedVariables false
set_option maxRecDepth 100000
namespace Go.Proofs.YtahkcemdbfjilaaGreatDoor
open Go.RowKit Go.Maps
theorem infoStr:(Tryz.prog.info? 9).map (fun i=>(i.zero,i.size,i.bytes))=some (some (.string ⟨#[]⟩),1,16):=by kernel_rfl
theorem kS_one (b:By):∀u∈[kS b],u.oneCell'=true:=by
 intro u hu;rw [List.mem_singleton] at hu;subst hu;rfl
theorem ba_append (a b:By):ba a++ba b=ba (a++b):=by
 apply ByteArray.ext;simp [ba]
theorem cutPrefix_any (s b:By) (w:World):Calls Tryz.prog 47 #[kS s,kS b] w fun e w'=>e=.returned (.tuple #[kS (if b.isPrefixOf s then s.drop b.length else s),.bool (b.isPrefixOf s)])∧w=w' :=
 (Tryz.strings_CutPrefix (ba s) (ba b) w).mono fun _ _ ⟨h1,h2⟩=>⟨h1,h2.symm⟩
def restsOf (ss:List By) (b:By):List By:=ss.filterMap fun q=>if b.isPrefixOf q then some (q.drop b.length) else none
theorem restsOf_snoc (ss:List By) (x b:By):restsOf (ss++[x]) b=restsOf ss b++(if b.isPrefixOf x then [x.drop b.length] else []):=by
 unfold restsOf;rw [List.filterMap_append];congr 1
 cases h:b.isPrefixOf x
 · simp only [List.filterMap_cons,List.filterMap_nil,h];rfl
 · simp only [List.filterMap_cons,List.filterMap_nil,h];rfl
theorem restsOf_le (ss:List By) (b:By):(restsOf ss b).length≤ss.length:=List.length_filterMap_le _ _
theorem rests_eq (L:Tr) (b:By):restsL L b=restsOf (L.map (·.1)) b:=by
 unfold restsL restsOf;rw [List.filterMap_map];rfl
theorem keys_perm {D:DataW Value} {L:Tr} (hs:Srt L) {left:Lit→Bool} {ss:List By} (hC:Collected D left ss) (hl:∀kl,left kl=false) (hr:∀p:By,p.length≤maxLen→has D (.string p)=(look L p).isSome)
 (hle:∀x,has D (.string x)=true→x.length≤maxLen) (hL:∀q,(look L q).isSome→q.length≤maxLen):ss.Perm (L.map (·.1)):=by
 refine (List.perm_ext_iff_of_nodup hC.1 ?_).2 fun x=>?_
 · exact List.pairwise_map.2 (hs.imp fun h=>cmpL_ne h)
 · rw [hC.2 x,hl]
   have hmem:x∈L.map (·.1)↔(look L x).isSome:=by
    rw [List.mem_map];constructor
    · rintro ⟨y,hy,rfl⟩
      cases hq:look L y.1 with
      | none=>exact absurd rfl (look_none.1 hq y hy)
      | some _=>rfl
    · intro h
      obtain ⟨n,hn⟩:=Option.isSome_iff_exists.1 h;exact ⟨_,look_mem hn,rfl⟩
   rw [hmem];constructor
   · rintro ⟨h1,_⟩
     rw [←hr x (hle x h1)];exact h1
   · intro h
     exact ⟨by rw [hr x (hL x h)];exact h,rfl⟩
theorem has_le {w:World} {b n:Nat} {D:DataW Value} (h:w.ownsMap Tryz.prog 9 Rv b n D) (x:By) (hx:has D (.string x)=true):x.length≤maxLen:=by
 obtain ⟨es,rfl,hko⟩:=h.keysOf;rw [has_eq,List.any_eq_true] at hx;obtain ⟨p,hp,hs⟩:=hx;obtain ⟨v,hv⟩:=hko p hp;obtain ⟨y,_,hy,hl⟩:=Maps.keyOf_str Tryz.underlying9 hv;rw [hy] at hs;have:y=x:=by simpa [Lit.sameKey] using hs
 rw [←this];exact hl
def InPost (w:World) (l:List By) (e:Ending) (w':World):Prop:=∃(v:Value) (xs:List By),e=.returned v∧xs.Perm l∧w'.ownsRow w.heap.size 9 1 v xs.length (xs.map kS)∧Below w.heap.size w w'
theorem rv_inv (v:Value) (y:DataW Value × List MemPlace) (_:Rv v=some y):∃c,v=id c:=⟨v,rfl⟩
set_option maxHeartbeats 4000000 in
theorem twithin_any {w:World} {g o m:Nat} {t:TypeId} {cs:Array Value} {L:Tr} {u room:Nat} (h:TreeS w g o m t cs L u room) (hL:∀q,(look L q).isSome→q.length≤4000) (p:By) (hp:p.length≤4000) :
 Calls Tryz.prog 154 #[.pointer (some ⟨g,o,none⟩),kS p] w fun e w'=>InPost w (innerL L p) e w':=by
 obtain ⟨i0,hi,hz0,hz1,hz2⟩:=info_parts infoStr;obtain ⟨a,HA⟩:∃a,Hid (isDirB L p=a):=⟨_,rfl⟩;have C1:Hid (Calls Tryz.prog 187 #[.pointer (some ⟨g,o,none⟩),kS p] w fun e w'=>e=.returned (.bool a)∧w=w'):=by rw [←HA.out];exact tisDir_any h p hp
 have HI:Hid (innerL L p=if a then restsL L (beginL p) else []):=by
  show _=_
  rw [←HA.out];unfold innerL isDirB;by_cases k:kindP L p=2<;>simp [k]
 have c0:=h.c0;obtain ⟨D,hown,hsz,hrd⟩:=h.mp.own;have HLE:=hid (has_le hown);have HK:=hid (fun ss left (hC:Collected D left ss) (hl:∀kl,left kl=false)=>keys_perm h.srt hC hl (fun p hp=>(hrd p hp).1) HLE.out (fun q hq=>maxLen_le (hL q hq)))
 have hlen:=h.len;have HSZ:=hid hsz;have HM:=hid h.mp.inside;clear h hsz hrd hL
 cases a with
 | false =>
  go_enter Tryz.func154,Tryz.ntmps154
  go_wp2_with (go_at_call 187;refine C1.out.mono ?_;rintro e1 w1 ⟨rfl,rfl⟩)
  go_ret;exact ⟨_,[],rfl,by rw [HI.out];exact List.Perm.refl _,World.ownsRow_nil _ _ _ _,Below.refl _ _⟩
 | true =>
  by_cases hp0:p=[]
  · have e1:(ba p).toList=[]:=by rw [toList_tl,tl_ba,hp0]
    have e2:(ba p).toList.isEmpty=true:=by simpa using e1
    have z1:(ba p).size≤4000:=by rw [ba_size];exact hp
    have HBG:Hid (beginL p=[]):=by show _=_;unfold beginL;rw [if_pos hp0]
    clear hp0;go_enter Tryz.func154,Tryz.ntmps154
    go_wp2_with (first
     | (go_at_call 187;refine C1.out.mono ?_;rintro e1 w1 ⟨rfl,rfl⟩)
     | (at_range;refine wpList_range_own _ rfl _ 124 rfl 9 71 str_keyed Tryz.underlying124 _ m L.length _ rfl hown ?_;intro w0 hrg0 hg0 hs0)
     | go_in)
    clear hs0 hown;go_frame
    go_loopw [6] (fun v wr=>∃(left:Lit→Bool) (cnt:Nat) (ss:List By),Hid (wr.ranges Tryz.prog 9 Rv m w.heap.size L.length D left cnt)∧Hid (ss.length+cnt≤L.length) ∧
     Hid (wr.ownsRow w.heap.size 9 1 v (restsOf ss []).length ((restsOf ss []).map kS))∧Hid (Collected D left ss)∧Hid (Below w.heap.size w wr))
     (fun _ wr=>wr.rangeLeft m w.heap.size)
    case atStart=>exact ⟨_,_,[],hrg0,by show _≤_;rw [HSZ.out];simp,World.ownsRow_nil _ _ _ _,Collected.start D,(Below.refl _ _).grown hg0 (Nat.le_refl _) (fun j hj=>by cases hj)⟩
    case round =>
     obtain ⟨left,cnt,ss,hrg,hcs,hrow,hC,hnx⟩:=hrel;clear hg0 hrg0;go_wp2_with (first
      | (at_next;refine wpList_next_ranges _ rfl _ rfl 9 str_keyed Rv kS id (fun key kl hk=>by obtain ⟨x,hx,_⟩:=Maps.keyOf_str Tryz.underlying9 hk;exact ⟨x,hx⟩) rv_inv m w.heap.size L.length _ _ _ rfl hrg.out ?_ ?_)
      | go_in)
     · intro hc0 hl0
       have HP:=hid (HK.out ss left hC.out hl0);clear hl0 hc0;go_wp2;go_ret;exact ⟨_,_,rfl,by rw [HI.out,if_pos trivial,HBG.out,rests_eq];exact HP.out.filterMap _,hrow.out,hnx.out⟩
     · intro x c kl yd yp w2 cnt2 hkey hlk hv hat hrg2 hlt hg2 hs2 hen
       obtain ⟨x',ex,rfl,_⟩:=Maps.keyOf_str Tryz.underlying9 hkey;obtain rfl:x=x':=encStr_inj ex;have hrow2:=hid (hrow.out.kept hg2 (by
        rcases hrow.out.2 with ⟨k1,_⟩ | ⟨g',_,cur,k1,_,k3,_⟩
        · rw [k1];exact .inl rfl
        · refine .inr (fun e=>?_)
          rw [k1] at e;injection e with e;have e:g'=w.heap.size:=e;obtain ⟨_,_,_,_,_,_,_,_,_,k5,_⟩:=hrg.out;rw [←e,k3] at k5
          cases k5))
       have hnx2:=hid (hnx.out.grown hg2 hnx.out.size (fun j hj=>by cases hj;exact Nat.le_refl _))
       have HR2:=hid hrg2;have HC2:=hid (hC.out.step hlk hat);have HLT:=hid hlt;have HSB:=hid (restsOf_le ss []);have HSN:=hid (restsOf_snoc ss x []);have hm2:=HM.out;clear hs2 hkey hlk hv hat hrg2 hg2 hlt ex
       cases hpx:([]:By).isPrefixOf x with
       | false =>
        have HPX:=hid hpx;have CP:Hid (∀W,Calls Tryz.prog 47 #[kS x,kS []] W fun e w'=>e=.returned (.tuple #[kS x,.bool false])∧W=w'):=by
         intro W;have:=cutPrefix_any x [] W;rw [hpx] at this;exact this
        clear hpx;go_wp2_with (go_at_call 47;refine (CP.out _).mono ?_;rintro e2 w3 ⟨rfl,rfl⟩)
        go_roundw
        case rel =>
         refine ⟨_,cnt2,ss++[x],HR2,?_,?_,HC2,hnx2⟩
         · show _≤_;have h1:=hcs.out;have h2:=HLT.out;simp;omega
         · show World.ownsRow _ _ _ _ _ _ _
           have e:restsOf (ss++[x]) []=restsOf ss []:=by rw [HSN.out,HPX.out];simp
           rw [e];exact hrow2.out
        case measure=>rw [HR2.out.left_eq,hrg.out.left_eq];exact HLT.out
       | true =>
        have HPX:=hid hpx;have CP:Hid (∀W,Calls Tryz.prog 47 #[kS x,kS []] W fun e w'=>e=.returned (.tuple #[kS (x.drop (List.length ([]:By))),.bool true])∧W=w'):=by
         intro W;have:=cutPrefix_any x [] W;rw [hpx] at this;exact this
        clear hpx;have N2:Hid ((restsOf ss []).length+1≤maxLen):=by show _≤_;have:=HSB.out;have:=hcs.out;unfold maxLen;omega
        have N3:Hid (((restsOf ss []).length+1)*16≤140737488355328):=by show _≤_;have:=HSB.out;have:=hcs.out;omega
        have N4:Hid (∀o,w.heap.size≤(w2.alloc o).heap.size):=by intro o;have:=hnx2.out.size;simp;omega
        go_wp2_with (first
         | (go_at_call 47;refine (CP.out _).mono ?_;rintro e2 w3 ⟨rfl,rfl⟩)
         | (at_builtin;refine wpList_append_own _ rfl _ _ 34 rfl w.heap.size 9 i0 (.string ⟨#[]⟩) 1 16 Tryz.underlying34 hi hz0 hz1 hz2 rfl (by decide) _ _ _ rfl (hrow2.out.alloc _) ⟨w2.heap.size,0,none⟩ 1 1 [kS (x.drop (List.length ([]:By)))] rfl rfl (cell_one_new _ _ _) (kS_one _) N2.out N3.out (N4.out _) ?_;intro v' w3 hown' hg3 _)
         | go_in)
        have HO3:=hid hown';have HG3:=hid hg3;clear hown' hg3;go_wp2;go_roundw
        case rel =>
         refine ⟨_,cnt2,ss++[x],(HR2.out.alloc _).kept HG3.out ?_ ?_,?_,?_,HC2,?_⟩
         · rcases hrow2.out.2 with ⟨k1,_⟩ | ⟨g',_,cur,k1,k2,k3,_⟩
           · rw [k1];intro e;cases e
           · rw [k1];intro e;injection e with e;have e:m=g':=e;have h8:=k2;have h9:=HM.out;omega
         · rcases hrow2.out.2 with ⟨k1,_⟩ | ⟨g',_,cur,k1,k2,k3,_⟩
           · rw [k1];intro e;cases e
           · rw [k1]
             intro e;injection e with e;obtain ⟨_,_,_,_,_,_,_,_,_,k5,_⟩:=HR2.out;rw [e,k3] at k5
             cases k5
         · show _≤_;have h1:=hcs.out;have h2:=HLT.out;simp;omega
         · show World.ownsRow _ _ _ _ _ _ _
           have e:restsOf (ss++[x]) []=restsOf ss []++[x.drop (List.length ([]:By))]:=by rw [HSN.out,HPX.out];simp
           rw [e,List.map_append,List.length_append];exact HO3.out
         · exact (hnx2.out.alloc hnx2.out.size _).grown HG3.out (N4.out _) (fun j hj=>(hrow2.out.lt j hj).1)
        case measure=>rw [((HR2.out.alloc _).kept HG3.out (by
         rcases hrow2.out.2 with ⟨k1,_⟩ | ⟨g',_,cur,k1,k2,k3,_⟩
         · rw [k1];intro e;cases e
         · rw [k1];intro e;injection e with e;have e:m=g':=e;have h8:=k2;have h9:=HM.out;omega) (by
         rcases hrow2.out.2 with ⟨k1,_⟩ | ⟨g',_,cur,k1,k2,k3,_⟩
         · rw [k1];intro e;cases e
         · rw [k1]
           intro e;injection e with e;obtain ⟨_,_,_,_,_,_,_,_,_,k5,_⟩:=HR2.out;rw [e,k3] at k5
           cases k5)).left_eq,hrg.out.left_eq];exact HLT.out
  · have e1:¬(ba p).toList=[]:=by rw [toList_tl,tl_ba];exact hp0
    have e2:(ba p).toList.isEmpty=false:=by simpa using e1
    have z1:(ba p).size≤4000:=by rw [ba_size];exact hp
    obtain ⟨b,HBG⟩:∃b,Hid (beginL p=b):=⟨_,rfl⟩;have HB7:Hid (ba p++⟨#[47]⟩=ba b):=by show _=_;rw [←HBG.out];unfold beginL;rw [if_neg hp0];exact ba_append p [47]
    clear hp0;go_enter Tryz.func154,Tryz.ntmps154
    go_wp2_with (first
     | (go_at_call 187;refine C1.out.mono ?_;rintro e1 w1 ⟨rfl,rfl⟩)
     | (at_range;refine wpList_range_own _ rfl _ 124 rfl 9 71 str_keyed Tryz.underlying124 _ m L.length _ rfl hown ?_;intro w0 hrg0 hg0 hs0)
     | go_in)
    clear hs0 hown;go_frame
    rw [HB7.out];go_loopw [6] (fun v wr=>∃(left:Lit→Bool) (cnt:Nat) (ss:List By),Hid (wr.ranges Tryz.prog 9 Rv m w.heap.size L.length D left cnt)∧Hid (ss.length+cnt≤L.length) ∧
     Hid (wr.ownsRow w.heap.size 9 1 v (restsOf ss b).length ((restsOf ss b).map kS))∧Hid (Collected D left ss)∧Hid (Below w.heap.size w wr))
     (fun _ wr=>wr.rangeLeft m w.heap.size)
    case atStart=>exact ⟨_,_,[],hrg0,by show _≤_;rw [HSZ.out];simp,World.ownsRow_nil _ _ _ _,Collected.start D,(Below.refl _ _).grown hg0 (Nat.le_refl _) (fun j hj=>by cases hj)⟩
    case round =>
     obtain ⟨left,cnt,ss,hrg,hcs,hrow,hC,hnx⟩:=hrel;clear hg0 hrg0;go_wp2_with (first
      | (at_next;refine wpList_next_ranges _ rfl _ rfl 9 str_keyed Rv kS id (fun key kl hk=>by obtain ⟨x,hx,_⟩:=Maps.keyOf_str Tryz.underlying9 hk;exact ⟨x,hx⟩) rv_inv m w.heap.size L.length _ _ _ rfl hrg.out ?_ ?_)
      | go_in)
     · intro hc0 hl0
       have HP:=hid (HK.out ss left hC.out hl0);clear hl0 hc0;go_wp2;go_ret;exact ⟨_,_,rfl,by rw [HI.out,if_pos trivial,HBG.out,rests_eq];exact HP.out.filterMap _,hrow.out,hnx.out⟩
     · intro x c kl yd yp w2 cnt2 hkey hlk hv hat hrg2 hlt hg2 hs2 hen
       obtain ⟨x',ex,rfl,_⟩:=Maps.keyOf_str Tryz.underlying9 hkey;obtain rfl:x=x':=encStr_inj ex;have hrow2:=hid (hrow.out.kept hg2 (by
        rcases hrow.out.2 with ⟨k1,_⟩ | ⟨g',_,cur,k1,_,k3,_⟩
        · rw [k1];exact .inl rfl
        · refine .inr (fun e=>?_)
          rw [k1] at e;injection e with e;have e:g'=w.heap.size:=e;obtain ⟨_,_,_,_,_,_,_,_,_,k5,_⟩:=hrg.out;rw [←e,k3] at k5
          cases k5))
       have hnx2:=hid (hnx.out.grown hg2 hnx.out.size (fun j hj=>by cases hj;exact Nat.le_refl _))
       have HR2:=hid hrg2;have HC2:=hid (hC.out.step hlk hat);have HLT:=hid hlt;have HSB:=hid (restsOf_le ss b);have HSN:=hid (restsOf_snoc ss x b);have hm2:=HM.out;clear hs2 hkey hlk hv hat hrg2 hg2 hlt ex
       cases hpx:(b:By).isPrefixOf x with
       | false =>
        have HPX:=hid hpx;have CP:Hid (∀W,Calls Tryz.prog 47 #[kS x,kS b] W fun e w'=>e=.returned (.tuple #[kS x,.bool false])∧W=w'):=by
         intro W;have:=cutPrefix_any x b W;rw [hpx] at this;exact this
        clear hpx;go_wp2_with (go_at_call 47;refine (CP.out _).mono ?_;rintro e2 w3 ⟨rfl,rfl⟩)
        go_roundw
        case rel =>
         refine ⟨_,cnt2,ss++[x],HR2,?_,?_,HC2,hnx2⟩
         · show _≤_;have h1:=hcs.out;have h2:=HLT.out;simp;omega
         · show World.ownsRow _ _ _ _ _ _ _
           have e:restsOf (ss++[x]) b=restsOf ss b:=by rw [HSN.out,HPX.out];simp
           rw [e];exact hrow2.out
        case measure=>rw [HR2.out.left_eq,hrg.out.left_eq];exact HLT.out
       | true =>
        have HPX:=hid hpx;have CP:Hid (∀W,Calls Tryz.prog 47 #[kS x,kS b] W fun e w'=>e=.returned (.tuple #[kS (x.drop (List.length (b:By))),.bool true])∧W=w'):=by
         intro W;have:=cutPrefix_any x b W;rw [hpx] at this;exact this
        clear hpx;have N2:Hid ((restsOf ss b).length+1≤maxLen):=by show _≤_;have:=HSB.out;have:=hcs.out;unfold maxLen;omega
        have N3:Hid (((restsOf ss b).length+1)*16≤140737488355328):=by show _≤_;have:=HSB.out;have:=hcs.out;omega
        have N4:Hid (∀o,w.heap.size≤(w2.alloc o).heap.size):=by intro o;have:=hnx2.out.size;simp;omega
        go_wp2_with (first
         | (go_at_call 47;refine (CP.out _).mono ?_;rintro e2 w3 ⟨rfl,rfl⟩)
         | (at_builtin;refine wpList_append_own _ rfl _ _ 34 rfl w.heap.size 9 i0 (.string ⟨#[]⟩) 1 16 Tryz.underlying34 hi hz0 hz1 hz2 rfl (by decide) _ _ _ rfl (hrow2.out.alloc _) ⟨w2.heap.size,0,none⟩ 1 1 [kS (x.drop (List.length (b:By)))] rfl rfl (cell_one_new _ _ _) (kS_one _) N2.out N3.out (N4.out _) ?_;intro v' w3 hown' hg3 _)
         | go_in)
        have HO3:=hid hown';have HG3:=hid hg3;clear hown' hg3;go_wp2;go_roundw
        case rel =>
         refine ⟨_,cnt2,ss++[x],(HR2.out.alloc _).kept HG3.out ?_ ?_,?_,?_,HC2,?_⟩
         · rcases hrow2.out.2 with ⟨k1,_⟩ | ⟨g',_,cur,k1,k2,k3,_⟩
           · rw [k1];intro e;cases e
           · rw [k1];intro e;injection e with e;have e:m=g':=e;have h8:=k2;have h9:=HM.out;omega
         · rcases hrow2.out.2 with ⟨k1,_⟩ | ⟨g',_,cur,k1,k2,k3,_⟩
           · rw [k1];intro e;cases e
           · rw [k1]
             intro e;injection e with e;obtain ⟨_,_,_,_,_,_,_,_,_,k5,_⟩:=HR2.out;rw [e,k3] at k5
             cases k5
         · show _≤_;have h1:=hcs.out;have h2:=HLT.out;simp;omega
         · show World.ownsRow _ _ _ _ _ _ _
           have e:restsOf (ss++[x]) b=restsOf ss b++[x.drop (List.length (b:By))]:=by rw [HSN.out,HPX.out];simp
           rw [e,List.map_append,List.length_append];exact HO3.out
         · exact (hnx2.out.alloc hnx2.out.size _).grown HG3.out (N4.out _) (fun j hj=>(hrow2.out.lt j hj).1)
        case measure=>rw [((HR2.out.alloc _).kept HG3.out (by
         rcases hrow2.out.2 with ⟨k1,_⟩ | ⟨g',_,cur,k1,k2,k3,_⟩
         · rw [k1];intro e;cases e
         · rw [k1];intro e;injection e with e;have e:m=g':=e;have h8:=k2;have h9:=HM.out;omega) (by
         rcases hrow2.out.2 with ⟨k1,_⟩ | ⟨g',_,cur,k1,k2,k3,_⟩
         · rw [k1];intro e;cases e
         · rw [k1]
           intro e;injection e with e;obtain ⟨_,_,_,_,_,_,_,_,_,k5,_⟩:=HR2.out;rw [e,k3] at k5
           cases k5)).left_eq,hrg.out.left_eq];exact HLT.out
end Go.Proofs.YtahkcemdbfjilaaGreatDoor
namespace Go.Proofs.YtahkcemdbfjilaaGreatDoor
open Go.RowKit Go.Maps
def SP (w:World) (g o m:Nat) (t:TypeId) (cs:Array Value) (room:Nat) (r:Int × Tr) (e:Ending) (w':World):Prop :=
 e=.returned (.int .i64 r.1)∧Turn (Two g m) w w'∧TreeS w' g o m t (cs.setIfInBounds (o+1) (.int .i64 ((usedL r.2:Nat):Int))) r.2 (usedL r.2) room
section
variable {w:World} {g o m:Nat} {t:TypeId} {cs:Array Value} {L:Tr} {room:Nat}
theorem SP.err (h:TreeS w g o m t cs L (usedL L) room) {w':World} (hb:Below w.heap.size w w') (c:Int):SP w g o m t cs room (c,L) (.returned (.int .i64 c)) w' :=
 ⟨rfl,Turn.of_below hb,(h.on hb (Nat.le_refl _)).same⟩
theorem SP.ahead {w1 w2:World} {r:Int × Tr} {e:Ending} (hb:Below w.heap.size w w1) (h:SP w1 g o m t cs room r e w2):SP w g o m t cs room r e w2 :=
 ⟨h.1,(Turn.of_below hb).then h.2.1,h.2.2⟩
set_option maxHeartbeats 2000000 in
theorem isTime_any (tm:Int) (w:World):Calls Tryz.prog 134 #[.int .i64 tm] w fun e w'=>e=.returned (.bool (timeB tm))∧w=w':=by
 by_cases h0:0≤tm
 · by_cases h1:tm≤4294967295
   · have HT:Hid (timeB tm=true):=by show _=_;simp [timeB,h0,h1]
     have d1:decide (0≤tm)=true:=by simpa using h0
     have d2:decide (tm≤4294967295)=true:=by simpa using h1
     go_enter Tryz.func134,Tryz.ntmps134
     go_wp2;go_ret;exact ⟨by rw [HT.out];rfl,rfl⟩
   · have HT:Hid (timeB tm=false):=by show _=_;simp [timeB,h1]
     have d1:decide (0≤tm)=true:=by simpa using h0
     have d2:decide (tm≤4294967295)=false:=by simpa using h1
     go_enter Tryz.func134,Tryz.ntmps134
     go_wp2;go_ret;exact ⟨by rw [HT.out];rfl,rfl⟩
 · have HT:Hid (timeB tm=false):=by show _=_;simp [timeB,h0]
   have d1:decide (0≤tm)=false:=by simpa using h0
   go_enter Tryz.func134,Tryz.ntmps134
   go_wp2;go_ret;exact ⟨by rw [HT.out];rfl,rfl⟩
theorem mayk_any (p:By) (b:Bool) (hb:mayB p=b) (w:World) (hG:Gd w) (hp:p.length≤4000):Calls Tryz.prog 99 #[kS p] w fun e w'=>e=.returned (.bool b)∧Below w.heap.size w w':=by
 have:=may_any (ba p) w hG (by rw [ba_size];exact hp)
 rw [tl_ba,hb] at this;exact this
set_option maxHeartbeats 4000000 in
theorem tadd_any (h:TreeS w g o m t cs L (usedL L) room) (hW:WFT room L) (hr:room≤1048576) (hG:Gd w) (p:By) (hp:p.length≤4000) (hm:mayB p=true) (n:Nd) (hn:n.data.length≤10000000) :
 Calls Tryz.prog 129 #[.pointer (some ⟨g,o,none⟩),kS p,nodeV n] w fun e w'=>SP w g o m t cs room (addE room L p n) e w':=by
 obtain ⟨k,d,x,tm⟩:=n;obtain ⟨w0,HW0⟩:∃w0,Hid (w.alloc (.cells #[.int .i64 k,kS d,kS x,.int .i64 tm] 71)=w0):=⟨_,rfl⟩;have B0:Hid (Below w.heap.size w w0):=by rw [←HW0.out];exact (Below.refl _ _).alloc (Nat.le_refl _) _
 have X0:Hid (Has w0 w.heap.size 71 #[.int .i64 k,kS d,kS x,.int .i64 tm]):=by rw [←HW0.out];exact Has.fresh _ _ _
 have h0:=h.on B0.out (Nat.le_refl _);obtain ⟨c,HC⟩:∃c,Hid (homeE L p=c):=⟨_,rfl⟩;obtain ⟨b,HB⟩:∃b,Hid (hasB L p=b):=⟨_,rfl⟩;have C1:Hid (Calls Tryz.prog 135 #[.pointer (some ⟨g,o,none⟩),kS p] w0 fun e w'=>e=.returned (.int .i64 c)∧Below w0.heap.size w0 w'):=by
  rw [←HC.out];exact tnoHome_any h0 (hG.kept B0.out) p hp hm
 have C2:Hid (∀w1,Below w0.heap.size w0 w1→Calls Tryz.prog 106 #[.pointer (some ⟨g,o,none⟩),kS p] w1 fun e w'=>e=.returned (.bool b)∧Below w1.heap.size w1 w'):=fun w1 hb=>by
  rw [←HB.out];exact thas_any (h0.on hb (Nat.le_refl _)) p hp
 have C3:Hid (∀w1,Below w0.heap.size w0 w1→Calls Tryz.prog 137 #[.pointer (some ⟨g,o,none⟩),kS p,.agg #[.int .i64 k,kS d,kS x,.int .i64 tm]] w1 fun e w'=>SP w1 g o m t cs room (putE room L p ⟨k,d,x,tm⟩) e w'):=fun w1 hb =>
  tput_any (h0.on hb (Nat.le_refl _)) rfl hW.used hr p hp ⟨k,d,x,tm⟩ hn
 have HE:Hid (addE room L p ⟨k,d,x,tm⟩=if c=0 then (if b then (6,L) else putE room L p ⟨k,d,x,tm⟩) else (c,L)):=by
  show _=_
  rw [←HC.out,←HB.out];rfl
 have H:=hid h;clear h h0 hW hG hm;show Calls Tryz.prog 129 #[.pointer (some ⟨g,o,none⟩),kS p,.agg #[.int .i64 k,kS d,kS x,.int .i64 tm]] w _
 by_cases hc:c=0
 · subst hc
   cases b with
   | true =>
    go_enter Tryz.func129,Tryz.ntmps129
    go_wp2_with fail
    rw [HW0.out];refine C1.out.mono ?_;rintro e1 w1 ⟨rfl,hb1⟩;have B1:=hid hb1;clear hb1;go_wp2_with fail
    refine (C2.out _ B1.out).mono ?_;rintro e2 w2 ⟨rfl,hb2⟩;have B2:=hid hb2;clear hb2;go_wp2;go_ret;rw [HE.out];exact SP.err H.out (B0.out.trans ((B1.out.trans (B2.out.mono B1.out.size)).mono B0.out.size)) 6
   | false =>
    go_enter Tryz.func129,Tryz.ntmps129
    go_wp2_with fail
    rw [HW0.out];refine C1.out.mono ?_;rintro e1 w1 ⟨rfl,hb1⟩;have B1:=hid hb1;clear hb1;go_wp2_with fail
    refine (C2.out _ B1.out).mono ?_;rintro e2 w2 ⟨rfl,hb2⟩;have B2:=hid (B1.out.trans (hb2.mono B1.out.size));clear hb2;have X2:Hid (Has w2 w.heap.size 71 #[.int .i64 k,kS d,kS x,.int .i64 tm]):=X0.out.kept B2.out X0.out.inside;have x0:=X2.out.at_ 0;have x1:=X2.out.at_ 1;have x2:=X2.out.at_ 2;have x3:=X2.out.at_ 3;have hl:=load_node X2.out;go_wp2_with fail
    refine (C3.out _ B2.out).mono ?_;rintro e3 w3 hs3;obtain ⟨r,HR⟩:∃r,Hid (putE room L p ⟨k,d,x,tm⟩=r):=⟨_,rfl⟩;rw [HR.out] at hs3;obtain ⟨rfl,h2,h3⟩:=hs3;have S3:Hid (SP w2 g o m t cs room r (.returned (.int .i64 r.1)) w3):=⟨rfl,h2,h3⟩;clear h2 h3;go_wp2;go_ret;rw [HE.out];simp only [if_true];rw [if_neg (by simp),HR.out]
    exact S3.out.ahead (B0.out.trans (B2.out.mono B0.out.size))
 · have q1:(c == 0)=false:=by simpa using hc
   have q2:(c != 0)=true:=by simpa using hc
   have HCN:=hid hc;clear hc;go_enter Tryz.func129,Tryz.ntmps129
   go_wp2_with fail
   rw [HW0.out];refine C1.out.mono ?_;rintro e1 w1 ⟨rfl,hb1⟩;have B1:=hid hb1;clear hb1;go_wp2;go_ret;rw [HE.out,if_neg HCN.out];exact SP.err H.out (B0.out.trans (B1.out.mono B0.out.size)) c
end
end Go.Proofs.YtahkcemdbfjilaaGreatDoor
namespace Go.Proofs.YtahkcemdbfjilaaGreatDoor
open Go.RowKit Go.Maps
section
variable {w:World} {g o m:Nat} {t:TypeId} {cs:Array Value} {L:Tr} {room:Nat}
theorem SP.split {w1 w2:World} {r r':Int × Tr} (hb:Below w.heap.size w w1) (h:SP w1 g o m t cs room r (.returned (.int .i64 r.1)) w2) (he:r'=r):SP w g o m t cs room r' (.returned (.int .i64 r.1)) w2:=by
 subst he;exact h.ahead hb
set_option maxHeartbeats 4000000 in
theorem tmkdir_any (h:TreeS w g o m t cs L (usedL L) room) (hW:WFT room L) (hr:room≤1048576) (hG:Gd w) (p:By) (hp:p.length≤4000) :
 Calls Tryz.prog 81 #[.pointer (some ⟨g,o,none⟩),kS p] w fun e w'=>SP w g o m t cs room (stepE room L (.mkdir p)) e w':=by
 have H:=hid h
 cases hm:mayB p with
 | false =>
  have C1:=hid (mayk_any p false hm w hG hp);have HE:Hid (stepE room L (.mkdir p)=(10,L)):=by show _=_;simp [stepE,hm]
  clear h hW hG hm;go_enter Tryz.func81,Tryz.ntmps81
  go_wp2_with (go_at_call 99;refine C1.out.mono ?_;rintro e1 w1 ⟨rfl,hb1⟩;have B1:=hid hb1;clear hb1)
  go_ret;rw [HE.out];exact SP.err H.out B1.out 10
 | true =>
  have C1:=hid (mayk_any p true hm w hG hp);have HE:Hid (stepE room L (.mkdir p)=addE room L p ⟨2,[],[],0⟩):=by show _=_;simp [stepE,hm]
  have C2:Hid (∀w1,Below w.heap.size w w1→Calls Tryz.prog 129 #[.pointer (some ⟨g,o,none⟩),kS p,.agg #[.int .i64 2,.string ⟨#[]⟩,.string ⟨#[]⟩,.int .i64 0]] w1 fun e w'=>SP w1 g o m t cs room (addE room L p ⟨2,[],[],0⟩) e w'):=fun w1 hb =>
   tadd_any (h.on hb (Nat.le_refl _)) hW hr (hG.kept hb) p hp hm ⟨2,[],[],0⟩ (by simp)
  clear h hW hG hm;obtain ⟨r,HR⟩:∃r,Hid (addE room L p ⟨2,[],[],0⟩=r):=⟨_,rfl⟩;rw [HR.out] at C2 HE;go_enter Tryz.func81,Tryz.ntmps81
  go_wp2_with fail
  refine C1.out.mono ?_;rintro e1 w1 ⟨rfl,hb1⟩;have B1:=hid hb1;clear hb1;go_wp2_with fail
  refine (C2.out _ B1.out).mono ?_;rintro e2 w2 ⟨rfl,h2,h3⟩;have S2:Hid (SP w1 g o m t cs room r (.returned (.int .i64 r.1)) w2):=⟨rfl,h2,h3⟩;clear h2 h3;go_wp2;go_ret;exact SP.split B1.out S2.out HE.out
set_option maxHeartbeats 4000000 in
theorem tlink_any (h:TreeS w g o m t cs L (usedL L) room) (hW:WFT room L) (hr:room≤1048576) (hG:Gd w) (p x:By) (tm:Int) (hp:p.length≤4000) (hx:x.length≤1000000) :
 Calls Tryz.prog 88 #[.pointer (some ⟨g,o,none⟩),kS p,kS x,.int .i64 tm] w fun e w'=>SP w g o m t cs room (stepE room L (.link p x tm)) e w':=by
 have H:=hid h
 cases hm:mayB p with
 | false =>
  have C1:=hid (mayk_any p false hm w hG hp);have HE:Hid (stepE room L (.link p x tm)=(10,L)):=by show _=_;simp [stepE,hm]
  clear h hW hG hm;go_enter Tryz.func88,Tryz.ntmps88
  go_wp2_with (go_at_call 99;refine C1.out.mono ?_;rintro e1 w1 ⟨rfl,hb1⟩;have B1:=hid hb1;clear hb1)
  go_ret;rw [HE.out];exact SP.err H.out B1.out 10
 | true =>
  have C1:=hid (mayk_any p true hm w hG hp);obtain ⟨b,HB⟩:∃b,Hid (timeB tm=b):=⟨_,rfl⟩;have C2:Hid (∀W,Calls Tryz.prog 134 #[.int .i64 tm] W fun e w'=>e=.returned (.bool b)∧W=w'):=by
   intro W;rw [←HB.out];exact isTime_any tm W
  have HE:Hid (stepE room L (.link p x tm)=if b=true∧1≤x.length∧x.length≤160 then addE room L p ⟨3,[],x,tm⟩ else (2,L)):=by
   show _=_;rw [←HB.out];simp only [stepE,hm,if_true]
   by_cases c:timeB tm=true∧1≤x.length∧x.length≤160
   · rw [if_pos c,if_pos (by simp [c])]
   · rw [if_neg c,if_neg (by simpa using c)]
  have C3:Hid (∀w1,Below w.heap.size w w1→Calls Tryz.prog 129 #[.pointer (some ⟨g,o,none⟩),kS p,.agg #[.int .i64 3,.string ⟨#[]⟩,kS x,.int .i64 tm]] w1 fun e w'=>SP w1 g o m t cs room (addE room L p ⟨3,[],x,tm⟩) e w'):=fun w1 hb =>
   tadd_any (h.on hb (Nat.le_refl _)) hW hr (hG.kept hb) p hp hm ⟨3,[],x,tm⟩ (by simp)
  have hz:(ba x).size=x.length:=ba_size x;obtain ⟨z,HZ⟩:∃z,Hid ((ba x).size=z):=⟨_,rfl⟩;have hz2:(ba x).size≤1000000:=by omega
  have HX:=hid hz;clear h hW hG hm hz
  cases b with
  | false =>
   go_enter Tryz.func88,Tryz.ntmps88
   go_wp2_with (first
    | (go_at_call 99;refine C1.out.mono ?_;rintro e1 w1 ⟨rfl,hb1⟩;have B1:=hid hb1;clear hb1)
    | (go_at_call 134;refine (C2.out _).mono ?_;rintro e1 w2 ⟨rfl,rfl⟩))
   go_ret;rw [HE.out,if_neg (by simp)]
   exact SP.err H.out B1.out 2
  | true =>
   by_cases h1:(ba x).size < 1
   · go_enter Tryz.func88,Tryz.ntmps88
     go_wp2_with (first
      | (go_at_call 99;refine C1.out.mono ?_;rintro e1 w1 ⟨rfl,hb1⟩;have B1:=hid hb1;clear hb1)
      | (go_at_call 134;refine (C2.out _).mono ?_;rintro e1 w2 ⟨rfl,rfl⟩))
     go_ret;rw [HE.out,if_neg (fun h=>by have:=HX.out;omega)]
     exact SP.err H.out B1.out 2
   · by_cases h2:160 < (ba x).size
     · go_enter Tryz.func88,Tryz.ntmps88
       go_wp2_with (first
        | (go_at_call 99;refine C1.out.mono ?_;rintro e1 w1 ⟨rfl,hb1⟩;have B1:=hid hb1;clear hb1)
        | (go_at_call 134;refine (C2.out _).mono ?_;rintro e1 w2 ⟨rfl,rfl⟩))
       go_ret;rw [HE.out,if_neg (fun h=>by have:=HX.out;omega)]
       exact SP.err H.out B1.out 2
     · have HQ:Hid (stepE room L (.link p x tm)=addE room L p ⟨3,[],x,tm⟩):=by
        show _=_;rw [HE.out,if_pos ⟨rfl,by have:=HX.out;omega,by have:=HX.out;omega⟩]
       obtain ⟨r,HR⟩:∃r,Hid (addE room L p ⟨3,[],x,tm⟩=r):=⟨_,rfl⟩;rw [HR.out] at C3 HQ;go_enter Tryz.func88,Tryz.ntmps88
       go_wp2_with (first
        | (go_at_call 99;refine C1.out.mono ?_;rintro e1 w1 ⟨rfl,hb1⟩;have B1:=hid hb1;clear hb1)
        | (go_at_call 134;refine (C2.out _).mono ?_;rintro e1 w2 ⟨rfl,rfl⟩)
        | (go_at_call 129;refine (C3.out _ B1.out).mono ?_;rintro e2 w2 ⟨rfl,h2,h3⟩))
       have S2:Hid (SP w1 g o m t cs room r (.returned (.int .i64 r.1)) w2):=⟨rfl,h2,h3⟩;clear h2 h3;go_ret;exact SP.split B1.out S2.out HQ.out
set_option maxHeartbeats 4000000 in
theorem twrite_any (h:TreeS w g o m t cs L (usedL L) room) (hW:WFT room L) (hr:room≤1048576) (hG:Gd w) (p d:By) (tm:Int) (hp:p.length≤4000) (hd:d.length≤1000000) :
 Calls Tryz.prog 85 #[.pointer (some ⟨g,o,none⟩),kS p,kS d,.int .i64 tm] w fun e w'=>SP w g o m t cs room (stepE room L (.write p d tm)) e w':=by
 have H:=hid h
 cases hm:mayB p with
 | false =>
  have C1:=hid (mayk_any p false hm w hG hp);have HE:Hid (stepE room L (.write p d tm)=(10,L)):=by show _=_;simp [stepE,hm]
  clear h hW hG hm;go_enter Tryz.func85,Tryz.ntmps85
  go_wp2_with (go_at_call 99;refine C1.out.mono ?_;rintro e1 w1 ⟨rfl,hb1⟩;have B1:=hid hb1;clear hb1)
  go_ret;rw [HE.out];exact SP.err H.out B1.out 10
 | true =>
  have C1:=hid (mayk_any p true hm w hG hp);obtain ⟨b,HB⟩:∃b,Hid (timeB tm=b):=⟨_,rfl⟩;obtain ⟨c,HC⟩:∃c,Hid (homeE L p=c):=⟨_,rfl⟩;obtain ⟨k,HK⟩:∃k,Hid (takenE L p=k):=⟨_,rfl⟩;have C2:Hid (∀W,Calls Tryz.prog 134 #[.int .i64 tm] W fun e w'=>e=.returned (.bool b)∧W=w'):=by
   intro W;rw [←HB.out];exact isTime_any tm W
  have C3:Hid (∀w1,Below w.heap.size w w1→Calls Tryz.prog 135 #[.pointer (some ⟨g,o,none⟩),kS p] w1 fun e w'=>e=.returned (.int .i64 c)∧Below w1.heap.size w1 w'):=fun w1 hb=>by
   rw [←HC.out];exact tnoHome_any (h.on hb (Nat.le_refl _)) (hG.kept hb) p hp hm
  have C4:Hid (∀w1,Below w.heap.size w w1→Calls Tryz.prog 136 #[.pointer (some ⟨g,o,none⟩),kS p] w1 fun e w'=>e=.returned (.int .i64 k)∧w1=w'):=fun w1 hb=>by
   rw [←HK.out];exact ttaken_any (h.on hb (Nat.le_refl _)) p hp
  have C5:Hid (∀w1,Below w.heap.size w w1→Calls Tryz.prog 137 #[.pointer (some ⟨g,o,none⟩),kS p,.agg #[.int .i64 1,kS d,.string ⟨#[]⟩,.int .i64 tm]] w1 fun e w'=>SP w1 g o m t cs room (putE room L p ⟨1,d,[],tm⟩) e w'):=fun w1 hb =>
   tput_any (h.on hb (Nat.le_refl _)) rfl hW.used hr p hp ⟨1,d,[],tm⟩ (by simp only;omega)
  have HE:Hid (stepE room L (.write p d tm)=if b=true then (if c=0 then (if k=0 then putE room L p ⟨1,d,[],tm⟩ else (k,L)) else (c,L)) else (2,L)):=by
   show _=_;rw [←HB.out,←HC.out,←HK.out];simp only [stepE,hm,if_true]
  clear h hW hG hm
  cases b with
  | false =>
   go_enter Tryz.func85,Tryz.ntmps85
   go_wp2_with (first
    | (go_at_call 99;refine C1.out.mono ?_;rintro e1 w1 ⟨rfl,hb1⟩;have B1:=hid hb1;clear hb1)
    | (go_at_call 134;refine (C2.out _).mono ?_;rintro e1 w2 ⟨rfl,rfl⟩))
   go_ret;rw [HE.out,if_neg (by simp)]
   exact SP.err H.out B1.out 2
  | true =>
   by_cases hc:c=0
   · subst hc
     by_cases hk:k=0
     · subst hk
       obtain ⟨r,HR⟩:∃r,Hid (putE room L p ⟨1,d,[],tm⟩=r):=⟨_,rfl⟩;have HQ:Hid (stepE room L (.write p d tm)=r):=by show _=_;rw [HE.out,if_pos (by trivial),if_pos (by trivial),if_pos (by trivial),HR.out]
       rw [HR.out] at C5;go_enter Tryz.func85,Tryz.ntmps85
       go_wp2_with (first
        | (go_at_call 99;refine C1.out.mono ?_;rintro e1 w1 ⟨rfl,hb1⟩;have B1:=hid hb1;clear hb1)
        | (go_at_call 134;refine (C2.out _).mono ?_;rintro e1 w2 ⟨rfl,rfl⟩)
        | (go_at_call 135;refine (C3.out _ B1.out).mono ?_;rintro e3 w3 ⟨rfl,hb3⟩;have B3:=hid (B1.out.trans (hb3.mono B1.out.size));clear hb3)
        | (go_at_call 136;refine (C4.out _ B3.out).mono ?_;rintro e4 w4 ⟨rfl,rfl⟩)
        | (go_at_call 137;refine (C5.out _ B3.out).mono ?_;rintro e5 w5 ⟨rfl,h2,h3⟩))
       have S2:Hid (SP w3 g o m t cs room r (.returned (.int .i64 r.1)) w5):=⟨rfl,h2,h3⟩;clear h2 h3;go_ret;exact SP.split B3.out S2.out HQ.out
     · have q1:(k == 0)=false:=by simpa using hk
       have q2:(k != 0)=true:=by simpa using hk
       have HKN:=hid hk;clear hk;go_enter Tryz.func85,Tryz.ntmps85
       go_wp2_with (first
        | (go_at_call 99;refine C1.out.mono ?_;rintro e1 w1 ⟨rfl,hb1⟩;have B1:=hid hb1;clear hb1)
        | (go_at_call 134;refine (C2.out _).mono ?_;rintro e1 w2 ⟨rfl,rfl⟩)
        | (go_at_call 135;refine (C3.out _ B1.out).mono ?_;rintro e3 w3 ⟨rfl,hb3⟩;have B3:=hid (B1.out.trans (hb3.mono B1.out.size));clear hb3)
        | (go_at_call 136;refine (C4.out _ B3.out).mono ?_;rintro e4 w4 ⟨rfl,rfl⟩))
       go_ret;rw [HE.out,if_pos (by trivial),if_pos (by trivial),if_neg HKN.out]
       exact SP.err H.out B3.out k
   · have q1:(c == 0)=false:=by simpa using hc
     have q2:(c != 0)=true:=by simpa using hc
     have HCN:=hid hc;clear hc;go_enter Tryz.func85,Tryz.ntmps85
     go_wp2_with (first
      | (go_at_call 99;refine C1.out.mono ?_;rintro e1 w1 ⟨rfl,hb1⟩;have B1:=hid hb1;clear hb1)
      | (go_at_call 134;refine (C2.out _).mono ?_;rintro e1 w2 ⟨rfl,rfl⟩)
      | (go_at_call 135;refine (C3.out _ B1.out).mono ?_;rintro e3 w3 ⟨rfl,hb3⟩;have B3:=hid (B1.out.trans (hb3.mono B1.out.size));clear hb3))
     go_ret;rw [HE.out,if_pos (by trivial),if_neg HCN.out]
     exact SP.err H.out B3.out c
end
end Go.Proofs.YtahkcemdbfjilaaGreatDoor
namespace Go.Proofs.YtahkcemdbfjilaaGreatDoor
open Go.RowKit Go.Maps
theorem inner_le (L:Tr) (a:By):(innerL L a).length≤L.length:=by
 unfold innerL restsL;split
 · exact List.length_filterMap_le _ _
 · simp
end Go.Proofs.YtahkcemdbfjilaaGreatDoor
