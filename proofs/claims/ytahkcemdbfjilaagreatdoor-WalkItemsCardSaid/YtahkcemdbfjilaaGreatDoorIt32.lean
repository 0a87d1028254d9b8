/- Several texts in one. Conditions: those said at each. -/
import Derived.Test.YtahkcemdbfjilaaGreatDoorIt31
import Derived.IntWalk
set_option linter.unusedSimpArgs false
set_option linter.unusedVariables false
set_option maxRecDepth 100000
namespace Go.Proofs.YtahkcemdbfjilaaGreatDoor
open Go.RowKit Go.Maps
theorem six {z:Int} (h0:1≤z) (h1:z≤6):z=1∨z=2∨z=3∨z=4∨z=5∨z=6:=by omega
theorem arg_may {p:By} {c d:Int} (h:(if mayB p then c else 10)=0):mayB p=true:=by
 cases k:mayB p with
 | true=>rfl
 | false=>rw [k] at h;simp at h
theorem rnext_any {w:World} {u:Nat} {L:Tr} {room:Nat} (h:TreeR w u L room) (hW:WFT room L) (hT:TG L) (hr:room≤1048576) (e:Rw) (he:RwOk e) (ha:argE (rwE e)=0) (m:Int) (pk:Bool) (hm:0≤m) :
 Calls Tryz.prog 83 #[.pointer (some ⟨u,0,none⟩),.agg (efC e.dO e.p e.q e.d e.tm m pk)] w fun en w'=>NextP w room (nextE room L (cutR (rwE e) m pk)) en w':=by
 obtain ⟨dO,p,q,d,tm⟩:=e;have hd:d.length≤100000000:=he.ld;rcases he.kk with k | k | k<;>simp only at k<;>subst k
 · exact rnext_write h hW hT hr p q d tm m pk hm hd (arg_may (d:=0) ha)
 · exact rnext_mkdir h hW hT hr p q d tm m pk hm hd (arg_may (d:=0) ha)
 · exact rnext_link h hW hT hr p q d tm m pk hm hd (arg_may (d:=0) ha)
end Go.Proofs.YtahkcemdbfjilaaGreatDoor
namespace Go.Proofs.YtahkcemdbfjilaaGreatDoor
open Go.RowKit Go.Maps
theorem fuse_off {fused:Bool} {left f:Int} (h:FuseIs fused left f):(fused&&decide (left≤0))=(f == 0):=by
 rcases h with ⟨rfl,rfl⟩ | ⟨rfl,rfl,h0⟩
 · rfl
 · rw [Bool.true_and]
   by_cases k:left=0
   · subst k;rfl
   · have h1:¬left≤0:=by omega
     have h2:(left == 0)=false:=by simpa using k
     rw [h2,decide_eq_false h1]
theorem fuse_burn {fused:Bool} {left f:Int} (h:FuseIs fused left f) (h0:f≠0) (h1:f≤9223372036854775807):FuseIs fused (wrap64 (left - 1)) (burnF f):=by
 rcases h with ⟨rfl,rfl⟩ | ⟨rfl,rfl,k0⟩
 · exact .inl ⟨rfl,rfl⟩
 · have hp:0 < left:=by omega
   have e:burnF left=left - 1:=by unfold burnF;rw [if_pos hp]
   rw [e,IntWalk.wrap64_in _ (by omega)]
   exact .inr ⟨rfl,rfl,by omega⟩
section
variable {own:Nat→Prop} {w:World} {r:Nat} {M:Mo}
set_option maxHeartbeats 4000000 in
theorem rOff_any (h:RDk own w r M):Calls Tryz.prog 82 #[.pointer (some ⟨r,0,none⟩)] w fun e w'=>e=.returned (.bool (M.fuse == 0))∧w=w':=by
 obtain ⟨tl,ts,sv,es,fused,left,h⟩:=h;have c3:w.cell? ⟨r,3,none⟩=some (.bool fused):=h.has.at_ 3;have c4:w.cell? ⟨r,4,none⟩=some (.int .i64 left):=h.has.at_ 4;have HF:=hid (fuse_off h.fu);obtain ⟨f,HM⟩:∃f,Hid ((M.fuse == 0)=f):=⟨_,rfl⟩;rw [HM.out] at HF ⊢;clear h HM
 cases fused with
 | false =>
  go_enter Tryz.func82,Tryz.ntmps82
  go_wp2;go_ret;exact ⟨by rw [←HF.out];rfl,rfl⟩
 | true =>
  go_enter Tryz.func82,Tryz.ntmps82
  go_wp2;go_ret;exact ⟨by rw [←HF.out];rfl,rfl⟩
end
def NewR (w:World) (M:Mo) (e:Ending) (w':World):Prop:=∃own r,e=.returned (.pointer (some ⟨r,0,none⟩))∧RDk own w' r M∧(∀g,own g→w.heap.size≤g)∧Below w.heap.size w w'
set_option maxHeartbeats 4000000 in
theorem rMade_any (w:World) (room:Nat) (h0:1024≤room) (h1:room≤1048576):Calls Tryz.prog 35 #[.int .i64 (room:Int)] w fun e w'=>NewR w (newM room) e w':=by
 obtain ⟨b,HB⟩:∃b,Hid (w.heap.size=b):=⟨_,rfl⟩;obtain ⟨w1,HW1⟩:∃w1,Hid (w.alloc (.cells #[.slice none 0 0,.int .i64 (room:Int)] 131)=w1):=⟨_,rfl⟩;have B1:Hid (Below w.heap.size w w1):=by rw [←HW1.out];exact (Below.refl _ _).alloc (Nat.le_refl _) _
 have X1:Hid (Has w1 b 131 #[.slice none 0 0,.int .i64 (room:Int)]):=by rw [←HW1.out,←HB.out];exact Has.fresh _ _ _
 have S1:Hid (w1.heap.size=b+1):=by show _=_;rw [←HW1.out,←HB.out];simp
 obtain ⟨w2,HW2⟩:∃w2,Hid (w1.alloc (.cells #[.slice none 0 0,.int .i64 (room:Int)] 131)=w2):=⟨_,rfl⟩;have b2:Below w1.heap.size w1 w2:=by rw [←HW2.out];exact (Below.refl _ _).alloc (Nat.le_refl _) _
 have X12:=hid (X1.out.kept b2 X1.out.inside);have X2:Hid (Has w2 (b+1) 131 #[.slice none 0 0,.int .i64 (room:Int)]):=by rw [←HW2.out,←S1.out];exact Has.fresh _ _ _
 have B2:Hid (Below w.heap.size w w2):=B1.out.trans (b2.mono B1.out.size);have S2:Hid (w2.heap.size=b+2):=by show _=_;rw [←HW2.out];simp;exact S1.out
 obtain ⟨w3,HW3⟩:∃w3,Hid (w2.alloc (.cells #[.pointer (some ⟨b,0,none⟩),.pointer (some ⟨b+1,0,none⟩),.slice none 0 0,.bool false,.int .i64 0] 51)=w3):=⟨_,rfl⟩;have b3:Below w2.heap.size w2 w3:=by rw [←HW3.out];exact (Below.refl _ _).alloc (Nat.le_refl _) _
 have X13:=hid (X12.out.kept b3 X12.out.inside);have X23:=hid (X2.out.kept b3 X2.out.inside);have X3:Hid (Has w3 (b+2) 51 (rcells b (b+1) (.slice none 0 0) false 0)):=by rw [←HW3.out,←S2.out];exact Has.fresh _ _ _
 have B3:Hid (Below w.heap.size w w3):=B2.out.trans (b3.mono B2.out.size);have z1:=HW1.out;have z2:=HW2.out;have z3:=HW3.out;have y0:=HB.out;have y1:=S1.out;have y2:=S2.out;clear b2 b3;go_enter Tryz.func35,Tryz.ntmps35
 go_wp2;go_ret;refine ⟨fun g=>g=b∨g=b+1∨g=b+2,b+2,rfl,⟨b,b+1,.slice none 0 0,[],false,0,?_⟩,?_,B3.out⟩
 · refine ⟨?_,?_,X3.out,.inr (.inr rfl),⟨⟨_,X13.out,TRow.nil _ _,fun b hb=>(by cases hb)⟩,.inl rfl⟩,⟨⟨_,X23.out,TRow.nil _ _,fun b hb=>(by cases hb)⟩,.inr (.inl rfl)⟩,ERow.nil _ _,fun b hb=>(by cases hb),rfl,fun e he=>(by cases he),.inl ⟨rfl,rfl⟩,GoodR.new _,h0,h1,by show 0≤_;omega⟩
   · rintro g (e | e | e)<;>rw [e]
     · exact X13.out.inside
     · exact X23.out.inside
     · exact X3.out.inside
   · rintro g (e | e | e)<;>rw [e]
     · exact X13.out.loose (by decide)
     · exact X23.out.loose (by decide)
     · exact X3.out.loose (by decide)
 · rintro g (e | e | e)<;>rw [e,HB.out]<;>omega
end Go.Proofs.YtahkcemdbfjilaaGreatDoor
