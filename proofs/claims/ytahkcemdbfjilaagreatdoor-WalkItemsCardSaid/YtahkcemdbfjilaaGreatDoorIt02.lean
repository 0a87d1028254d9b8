/- Several texts in one. Conditions: those said at each. -/
import Derived.Test.YtahkcemdbfjilaaGreatDoorIt01
import Derived.Deep.DeepFit
import Derived.OneCell
import Derived.Lib.SmallJoins
set_option linter.unusedSimpArgs false
set_option linter.unusedVariables false
set_option maxRecDepth 100000
namespace Go.Proofs.YtahkcemdbfjilaaGreatDoor
open Go.RowKit
theorem toList_tl (s:ByteArray):s.toList=tl s:=ByteArray.toList_eq s
theorem okB_at (l:List UInt8) (k:Nat) (h:k < l.length) (ha:(l.take k).all okB=true) (hk:okB (at8 l k)=true):(l.take (k+1)).all okB=true:=by
 have e:at8 l k=l[k]:=by simp [at8,List.getD,List.getElem?_eq_getElem h]
 rw [e] at hk;rw [List.take_succ_eq_append_getElem h,List.all_append,ha];simp [hk]
theorem okB_no (l:List UInt8) (k:Nat) (h:k < l.length) (hk:okB (at8 l k)=false):nameB l=false:=by
 have e:at8 l k=l[k]:=by simp [at8,List.getD,List.getElem?_eq_getElem h]
 rw [e] at hk;have:l.all okB=false:=by rw [List.all_eq_false];exact ⟨_,List.getElem_mem h,by simp [hk]⟩
 simp [nameB,this]
theorem ret_bool {a b:Bool} (h:a=b):Ending.returned (.bool a)=.returned (.bool b):=by rw [h]
set_option maxHeartbeats 1000000 in
theorem name_any (s:ByteArray) (w:World) (hs:s.size≤140737488355328) :
 Calls Tryz.prog 123 #[.string s] w fun e w'=>e=.returned (.bool (nameB (tl s)))∧w=w':=by
 have hc:Hid (s.toList=tl s):=toList_tl s;have hz:Hid (s.size=(tl s).length):=(tl_length s).symm;have hcase:(s.toList=[])∨(s.toList≠[]∧48 < s.size)∨(s.toList≠[]∧s.size≤48∧s.toList=[46])∨(s.toList≠[]∧s.size≤48∧s.toList≠[46]∧s.toList=[46,46])∨(s.toList≠[]∧s.size≤48∧s.toList≠[46]∧s.toList≠[46,46]):=by
  by_cases h1:s.toList=[]
  · exact .inl h1
  · by_cases h2:s.size≤48
    · by_cases h3:s.toList=[46]
      · exact .inr (.inr (.inl ⟨h1,h2,h3⟩))
      · by_cases h4:s.toList=[46,46]
        · exact .inr (.inr (.inr (.inl ⟨h1,h2,h3,h4⟩)))
        · exact .inr (.inr (.inr (.inr ⟨h1,h2,h3,h4⟩)))
    · exact .inr (.inl ⟨h1,by omega⟩)
 rcases hcase with h1 | ⟨h1,h2⟩ | ⟨h1,h2,h3⟩ | ⟨h1,h2,h3,h4⟩ | ⟨h1,h2,h3,h4⟩
 · have hn:Hid (nameB (tl s)=false):=by show _=_;simp [nameB,headB,←hc.out,h1]
   go_enter Tryz.func123,Tryz.ntmps123
   go_wp2;go_step3
   go_wp2;go_step3
   go_wp2;go_loopw [3,23] (fun v i wr=>∃k:Nat,k≤s.size∧i=.int .i64 (k:Int)∧v=.bool false∧w=wr)
    (fun _ i _=>s.size - (intOf i).toNat)
   case atStart=>exact ⟨0,by omega,rfl,rfl,rfl⟩
   case round =>
    obtain ⟨k,hk,rfl,rfl,rfl⟩:=hrel;by_cases hlt:k < s.size
    · have i1:=index_str s k hlt
      generalize at8 (tl s) k=x at i1;have b1:=b8_nonneg x;have b2:=b8_lt x;by_cases c1:b8 x < 32
      · have HO:Hid (okB x=false):=by show _=_;simp [okB,c1]
        have t1:decide (b8 x < 32)=true:=by simp [c1]
        clear c1;go_wp2;rw [Exit.noGoto_ret];go_ret;exact ⟨ret_bool hn.out.symm,rfl⟩
      · have t1:decide (b8 x < 32)=false:=by simp [c1]
        by_cases c2:b8 x=127
        · have HO:Hid (okB x=false):=by show _=_;simp [okB,c2]
          have t2:(b8 x == 127)=true:=by simp [c2]
          clear c1 c2;go_wp2;rw [Exit.noGoto_ret];go_ret;exact ⟨ret_bool hn.out.symm,rfl⟩
        · have t2:(b8 x == 127)=false:=by simp [c2]
          by_cases c3:b8 x=47
          · have HO:Hid (okB x=false):=by show _=_;simp [okB,c3]
            have t3:(b8 x == 47)=true:=by simp [c3]
            clear c1 c2 c3;go_wp2;rw [Exit.noGoto_ret];go_ret;exact ⟨ret_bool hn.out.symm,rfl⟩
          · have t3:(b8 x == 47)=false:=by simp [c3]
            have HO:Hid (okB x=true):=by show _=_;simp [okB,c1,c2,c3]
            clear c1 c2 c3;go_wp2;go_roundw
            case rel=>exact ⟨k+1,by omega,by go_num,rfl,trivial⟩
            case measure=>simp [intOf];omega
    · have HK:Hid (k=s.size):=by show _=_;omega
      go_wp2;try rw [Exit.noGoto_ret]
      go_ret;exact ⟨ret_bool hn.out.symm,rfl⟩
 · have g1:(!s.toList.isEmpty)=true:=by simp [h1]
   have g2:¬((s.size:Int)≤48):=by omega
   have hn:Hid (nameB (tl s)=false):=by show _=_;simp [nameB,headB,←hz.out];omega
   clear h1 h2;go_enter Tryz.func123,Tryz.ntmps123
   go_wp2;go_step3
   go_wp2;go_step3
   go_wp2;go_loopw [3,23] (fun v i wr=>∃k:Nat,k≤s.size∧i=.int .i64 (k:Int)∧v=.bool false∧w=wr)
    (fun _ i _=>s.size - (intOf i).toNat)
   case atStart=>exact ⟨0,by omega,rfl,rfl,rfl⟩
   case round =>
    obtain ⟨k,hk,rfl,rfl,rfl⟩:=hrel;by_cases hlt:k < s.size
    · have i1:=index_str s k hlt
      generalize at8 (tl s) k=x at i1;have b1:=b8_nonneg x;have b2:=b8_lt x;by_cases c1:b8 x < 32
      · have HO:Hid (okB x=false):=by show _=_;simp [okB,c1]
        have t1:decide (b8 x < 32)=true:=by simp [c1]
        clear c1;go_wp2;rw [Exit.noGoto_ret];go_ret;exact ⟨ret_bool hn.out.symm,rfl⟩
      · have t1:decide (b8 x < 32)=false:=by simp [c1]
        by_cases c2:b8 x=127
        · have HO:Hid (okB x=false):=by show _=_;simp [okB,c2]
          have t2:(b8 x == 127)=true:=by simp [c2]
          clear c1 c2;go_wp2;rw [Exit.noGoto_ret];go_ret;exact ⟨ret_bool hn.out.symm,rfl⟩
        · have t2:(b8 x == 127)=false:=by simp [c2]
          by_cases c3:b8 x=47
          · have HO:Hid (okB x=false):=by show _=_;simp [okB,c3]
            have t3:(b8 x == 47)=true:=by simp [c3]
            clear c1 c2 c3;go_wp2;rw [Exit.noGoto_ret];go_ret;exact ⟨ret_bool hn.out.symm,rfl⟩
          · have t3:(b8 x == 47)=false:=by simp [c3]
            have HO:Hid (okB x=true):=by show _=_;simp [okB,c1,c2,c3]
            clear c1 c2 c3;go_wp2;go_roundw
            case rel=>exact ⟨k+1,by omega,by go_num,rfl,trivial⟩
            case measure=>simp [intOf];omega
    · have HK:Hid (k=s.size):=by show _=_;omega
      go_wp2;try rw [Exit.noGoto_ret]
      go_ret;exact ⟨ret_bool hn.out.symm,rfl⟩
 · have g1:(!s.toList.isEmpty)=true:=by simp [h1]
   have g2:((s.size:Int)≤48):=by omega
   have g3:(!s.toList == [46])=false:=by simp [h3]
   have hn:Hid (nameB (tl s)=false):=by show _=_;simp [nameB,headB,←hc.out,h3]
   clear h1 h2 h3;go_enter Tryz.func123,Tryz.ntmps123
   go_wp2;go_step3
   go_wp2;go_step3
   go_wp2;go_loopw [3,23] (fun v i wr=>∃k:Nat,k≤s.size∧i=.int .i64 (k:Int)∧v=.bool false∧w=wr)
    (fun _ i _=>s.size - (intOf i).toNat)
   case atStart=>exact ⟨0,by omega,rfl,rfl,rfl⟩
   case round =>
    obtain ⟨k,hk,rfl,rfl,rfl⟩:=hrel;by_cases hlt:k < s.size
    · have i1:=index_str s k hlt
      generalize at8 (tl s) k=x at i1;have b1:=b8_nonneg x;have b2:=b8_lt x;by_cases c1:b8 x < 32
      · have HO:Hid (okB x=false):=by show _=_;simp [okB,c1]
        have t1:decide (b8 x < 32)=true:=by simp [c1]
        clear c1;go_wp2;rw [Exit.noGoto_ret];go_ret;exact ⟨ret_bool hn.out.symm,rfl⟩
      · have t1:decide (b8 x < 32)=false:=by simp [c1]
        by_cases c2:b8 x=127
        · have HO:Hid (okB x=false):=by show _=_;simp [okB,c2]
          have t2:(b8 x == 127)=true:=by simp [c2]
          clear c1 c2;go_wp2;rw [Exit.noGoto_ret];go_ret;exact ⟨ret_bool hn.out.symm,rfl⟩
        · have t2:(b8 x == 127)=false:=by simp [c2]
          by_cases c3:b8 x=47
          · have HO:Hid (okB x=false):=by show _=_;simp [okB,c3]
            have t3:(b8 x == 47)=true:=by simp [c3]
            clear c1 c2 c3;go_wp2;rw [Exit.noGoto_ret];go_ret;exact ⟨ret_bool hn.out.symm,rfl⟩
          · have t3:(b8 x == 47)=false:=by simp [c3]
            have HO:Hid (okB x=true):=by show _=_;simp [okB,c1,c2,c3]
            clear c1 c2 c3;go_wp2;go_roundw
            case rel=>exact ⟨k+1,by omega,by go_num,rfl,trivial⟩
            case measure=>simp [intOf];omega
    · have HK:Hid (k=s.size):=by show _=_;omega
      go_wp2;try rw [Exit.noGoto_ret]
      go_ret;exact ⟨ret_bool hn.out.symm,rfl⟩
 · have g1:(!s.toList.isEmpty)=true:=by simp [h1]
   have g2:((s.size:Int)≤48):=by omega
   have g3:(!s.toList == [46])=true:=by simp [h3]
   have g4:(!s.toList == [46,46])=false:=by simp [h4]
   have hn:Hid (nameB (tl s)=false):=by show _=_;simp [nameB,headB,←hc.out,h4]
   clear h1 h2 h3 h4;go_enter Tryz.func123,Tryz.ntmps123
   go_wp2;go_step3
   go_wp2;go_step3
   go_wp2;go_loopw [3,23] (fun v i wr=>∃k:Nat,k≤s.size∧i=.int .i64 (k:Int)∧v=.bool false∧w=wr)
    (fun _ i _=>s.size - (intOf i).toNat)
   case atStart=>exact ⟨0,by omega,rfl,rfl,rfl⟩
   case round =>
    obtain ⟨k,hk,rfl,rfl,rfl⟩:=hrel;by_cases hlt:k < s.size
    · have i1:=index_str s k hlt
      generalize at8 (tl s) k=x at i1;have b1:=b8_nonneg x;have b2:=b8_lt x;by_cases c1:b8 x < 32
      · have HO:Hid (okB x=false):=by show _=_;simp [okB,c1]
        have t1:decide (b8 x < 32)=true:=by simp [c1]
        clear c1;go_wp2;rw [Exit.noGoto_ret];go_ret;exact ⟨ret_bool hn.out.symm,rfl⟩
      · have t1:decide (b8 x < 32)=false:=by simp [c1]
        by_cases c2:b8 x=127
        · have HO:Hid (okB x=false):=by show _=_;simp [okB,c2]
          have t2:(b8 x == 127)=true:=by simp [c2]
          clear c1 c2;go_wp2;rw [Exit.noGoto_ret];go_ret;exact ⟨ret_bool hn.out.symm,rfl⟩
        · have t2:(b8 x == 127)=false:=by simp [c2]
          by_cases c3:b8 x=47
          · have HO:Hid (okB x=false):=by show _=_;simp [okB,c3]
            have t3:(b8 x == 47)=true:=by simp [c3]
            clear c1 c2 c3;go_wp2;rw [Exit.noGoto_ret];go_ret;exact ⟨ret_bool hn.out.symm,rfl⟩
          · have t3:(b8 x == 47)=false:=by simp [c3]
            have HO:Hid (okB x=true):=by show _=_;simp [okB,c1,c2,c3]
            clear c1 c2 c3;go_wp2;go_roundw
            case rel=>exact ⟨k+1,by omega,by go_num,rfl,trivial⟩
            case measure=>simp [intOf];omega
    · have HK:Hid (k=s.size):=by show _=_;omega
      go_wp2;try rw [Exit.noGoto_ret]
      go_ret;exact ⟨ret_bool hn.out.symm,rfl⟩
 · have g1:(!s.toList.isEmpty)=true:=by simp [h1]
   have g2:((s.size:Int)≤48):=by omega
   have g3:(!s.toList == [46])=true:=by simp [h3]
   have g4:(!s.toList == [46,46])=true:=by simp [h4]
   have hn:Hid (headB (tl s)=true):=by show _=_;simp [headB,←hc.out,h1,h3,h4];rw [hc.out,←hz.out];exact h2
   clear h1 h2 h3 h4;go_enter Tryz.func123,Tryz.ntmps123
   go_wp2;go_step3
   go_wp2;go_step3
   go_wp2;go_loopw [3,23] (fun v i wr=>∃k:Nat,k≤s.size∧i=.int .i64 (k:Int)∧v=.bool true∧Hid (((tl s).take k).all okB=true)∧w=wr)
    (fun _ i _=>s.size - (intOf i).toNat)
   case atStart=>exact ⟨0,by omega,rfl,rfl,rfl,rfl⟩
   case round =>
    obtain ⟨k,hk,rfl,rfl,HA,rfl⟩:=hrel;by_cases hlt:k < s.size
    · have i1:=index_str s k hlt
      have HY:=hid (okB_at (tl s) k (by rw [tl_length];exact hlt) HA.out)
      have HN:=hid (okB_no (tl s) k (by rw [tl_length];exact hlt))
      generalize at8 (tl s) k=x at i1 HY HN;have b1:=b8_nonneg x;have b2:=b8_lt x;by_cases c1:b8 x < 32
      · have HO:Hid (okB x=false):=by show _=_;simp [okB,c1]
        have t1:decide (b8 x < 32)=true:=by simp [c1]
        clear c1;go_wp2;rw [Exit.noGoto_ret];go_ret;exact ⟨ret_bool (HN.out HO.out).symm,rfl⟩
      · have t1:decide (b8 x < 32)=false:=by simp [c1]
        by_cases c2:b8 x=127
        · have HO:Hid (okB x=false):=by show _=_;simp [okB,c2]
          have t2:(b8 x == 127)=true:=by simp [c2]
          clear c1 c2;go_wp2;rw [Exit.noGoto_ret];go_ret;exact ⟨ret_bool (HN.out HO.out).symm,rfl⟩
        · have t2:(b8 x == 127)=false:=by simp [c2]
          by_cases c3:b8 x=47
          · have HO:Hid (okB x=false):=by show _=_;simp [okB,c3]
            have t3:(b8 x == 47)=true:=by simp [c3]
            clear c1 c2 c3;go_wp2;rw [Exit.noGoto_ret];go_ret;exact ⟨ret_bool (HN.out HO.out).symm,rfl⟩
          · have t3:(b8 x == 47)=false:=by simp [c3]
            have HO:Hid (okB x=true):=by show _=_;simp [okB,c1,c2,c3]
            clear c1 c2 c3;go_wp2;go_roundw
            case rel=>exact ⟨k+1,by omega,by go_num,rfl,HY.out HO.out,trivial⟩
            case measure=>simp [intOf];omega
    · have HK:Hid (k=s.size):=by show _=_;omega
      go_wp2;try rw [Exit.noGoto_ret]
      go_ret;refine ⟨ret_bool ?_,rfl⟩;have ha:=HA.out;rw [List.take_of_length_le (by rw [tl_length,HK.out];exact Nat.le_refl _)] at ha
      simp [nameB,hn.out,ha]
end Go.Proofs.YtahkcemdbfjilaaGreatDoor
namespace Go.Proofs.YtahkcemdbfjilaaGreatDoor
open Go.RowKit
def Gd (w:World):Prop:=w.ShapedOpen Tryz.prog∧Tryz.prog.low≤w.heap.size
theorem Gd.pos {w:World} (h:Gd w):0 < w.heap.size:=Nat.lt_of_lt_of_le (of_decide_eq_true (by kernel_rfl:decide (0 < Tryz.prog.low)=true)) h.2
theorem Gd.kept {w w':World} (h:Gd w) (hb:Below w.heap.size w w'):Gd w':=by
 refine ⟨h.1.keptBut (hb.frame (fun p=>w.heap.size≤p.block)) (fun p hp=>Nat.le_trans h.2 hp),Nat.le_trans h.2 hb.size⟩
def ba (l:List UInt8):ByteArray:=⟨l.toArray⟩
theorem tl_ba (l:List UInt8):tl (ba l)=l:=rfl
theorem ba_tl (s:ByteArray):ba (tl s)=s:=by simp [ba,tl]
theorem ba_size (l:List UInt8):(ba l).size=l.length:=by rw [←tl_length];rfl
theorem cut_any (s:ByteArray) (p q:List UInt8) (m:Bool) (h:Hid (cutS (tl s)=(p,q,m))) (w:World) (hG:Gd w) (hs:s.size < 4294967281) :
 Calls Tryz.prog 90 #[.string s,.string ⟨#[47]⟩] w fun e w'=>e=.returned (.tuple #[.string (ba p),.string (ba q),.bool m])∧∃n,w'=w.drewN n:=by
 refine (Tryz.strings_Cut_shaped s ⟨#[47]⟩ w hG.1 hs).mono fun e w' ⟨h1,h2⟩=>⟨?_,h2⟩
 have e2:Lib.cut (tl s) [47]=(p,q,m):=(cut_one _).trans h.out;rw [h1];show Ending.returned (.tuple #[.string (ba (Lib.cut (tl s) [47]).1),.string (ba (Lib.cut (tl s) [47]).2.1),.bool (Lib.cut (tl s) [47]).2.2])=_
 rw [e2]
def Has (w:World) (g:Nat) (t:TypeId) (cs:Array Value):Prop:=w.heap[g]? = some (.cells cs t (0,0))
section
variable {w w':World} {g:Nat} {t:TypeId} {cs:Array Value}
theorem Has.inside (h:Has w g t cs):g < w.heap.size:=by
 unfold Has at h;exact (Array.getElem?_eq_some_iff.1 h).1
theorem Has.at_ (h:Has w g t cs) (i:Nat):w.cell? ⟨g,i,none⟩=cs[i]?:=cell_of_row w g i cs t (0,0) h
theorem Has.free (h:Has w g t cs) (i:Nat):w.frozen? ⟨g,i,none⟩=false:=by
 unfold Has at h;simp [World.frozen?,h]
theorem Has.fresh (w:World) (t:TypeId) (cs:Array Value):Has (w.alloc (.cells cs t)) w.heap.size t cs:=heap_alloc_new w _
theorem Has.fresh' (w:World) (t:TypeId) (cs:Array Value) {g:Nat} (hg:g=w.heap.size):Has (w.alloc (.cells cs t)) g t cs:=by subst hg;exact Has.fresh w t cs
theorem Has.drawn (h:Has w g t cs) (n:Nat):Has (w.drewN n) g t cs:=h
theorem Has.more (h:Has w g t cs) (o:Obj):Has (w.alloc o) g t cs:=(Below.heap_alloc w o g h.inside).trans h
theorem Has.put (h:Has w g t cs) (i:Nat) (v:Value):Has (w.setCell ⟨g,i,none⟩ v) g t (cs.setIfInBounds i v):=by
 unfold Has at h ⊢;simp [World.setCell,Array.getElem?_modify,h]
theorem Has.other (h:Has w g t cs) {p:Addr} (hp:g≠p.block) (v:Value):Has (w.setCell p v) g t cs:=(Below.heap_setCell w p v g hp).trans h
theorem Has.kept {B:Nat} (h:Has w g t cs) (hb:Below B w w') (hg:g < B):Has w' g t cs:=(hb.block g hg).trans h
end
theorem Has.row {w:World} {g:Nat} {t:TypeId} {cs cs':Array Value} (h:Has w g t cs):Has (w.setRow g cs') g t cs':=setRow_heap w g cs cs' t (0,0) h
theorem Has.rowOther {w:World} {g g':Nat} {t:TypeId} {cs cs':Array Value} (h:Has w g t cs) (hg:g≠g'):Has (w.setRow g' cs') g t cs:=(setRow_other w g' g cs' hg).trans h
def FC (b n:Nat) (s:ByteArray) (k:Nat) (w w':World):Prop:=w'=(w.setCell ⟨b,0,none⟩ (.string s)).setCell ⟨n,0,none⟩ (.int .i64 ((k+1:Nat):Int))
set_option maxHeartbeats 400000 in
theorem findC_any (s:ByteArray) (b n:Nat) (v:Value) (k:Nat) (w:World) (hs:s.size≤140737488355328) (hk:k≤6) (hb:Has w b 9 #[v]) (hn:Has w n 3 #[.int .i64 (k:Int)]) (hne:b≠n) :
 Calls Tryz.prog 122 #[.string s,.pointer (some ⟨b,0,none⟩),.pointer (some ⟨n,0,none⟩)] w fun e w'=>e=.returned (.bool (decide (k+1≤6)&&nameB (tl s)))∧FC b n s k w w':=by
 have c1:w.cell? ⟨b,0,none⟩=some v:=hb.at_ 0;have c2:w.cell? ⟨n,0,none⟩=some (.int .i64 (k:Int)):=hn.at_ 0;have f1:=hb.free 0;have f2:=hn.free 0;have c3:(w.setCell ⟨b,0,none⟩ (.string s)).cell? ⟨n,0,none⟩=some (.int .i64 (k:Int)):=(Has.other hn hne.symm _).at_ 0;have f3:=(Has.other hn (p:=⟨b,0,none⟩) hne.symm (.string s)).free 0;clear hb hn;by_cases h6:k+1≤6
 · have g1:(k:Int)+1≤6:=by omega
   have H6:=hid h6;clear h6 hk;go_enter Tryz.func122,Tryz.ntmps122
   go_wp2_with (go_at_call 123;refine (name_any _ _ hs).mono ?_;rintro e1 w1 ⟨rfl,rfl⟩)
   go_ret;refine ⟨ret_bool (by simp [H6.out]),?_⟩
   unfold FC;rfl
 · have g1:¬((k:Int)+1≤6):=by omega
   have H6:=hid h6;clear h6;go_enter Tryz.func122,Tryz.ntmps122
   go_wp2;go_ret;refine ⟨ret_bool (by have h:=H6.out;rw [decide_eq_false (show ¬k≤5 by omega)];rfl),?_⟩
   unfold FC;rfl
theorem FC.post {b n k:Nat} {s:ByteArray} {v:Value} {w0 w w':World} (h:FC b n s k w w') (hb:Has w b 9 #[v]) (hn:Has w n 3 #[.int .i64 (k:Int)]) (hne:b≠n) (hB:Below w0.heap.size w0 w) (h1:w0.heap.size≤b) (h2:w0.heap.size≤n) :
 Has w' b 9 #[.string s]∧Has w' n 3 #[.int .i64 ((k+1:Nat):Int)]∧Below w0.heap.size w0 w':=by
 unfold FC at h;subst h;exact ⟨((hb.put 0 _).other (p:=⟨n,0,none⟩) hne _),((hn.other (p:=⟨b,0,none⟩) hne.symm _).put 0 _),(hB.setCell h1 _).setCell h2 _⟩
def EC (w0:World) (b n:Nat) (r:Bool × Nat × List UInt8) (e:Ending) (w':World):Prop :=
 e=.returned (.bool r.1)∧Has w' b 9 #[.string (ba r.2.2)]∧Has w' n 3 #[.int .i64 (r.2.1:Int)]∧Below w0.heap.size w0 w'
set_option maxHeartbeats 400000 in
theorem each_any (s:ByteArray) (b n:Nat) (v:List UInt8) (k:Nat) (w0 w:World) (hG:Gd w0) (hs:s.size≤4000) (hk:k≤6) (hb:Has w b 9 #[.string (ba v)]) (hn:Has w n 3 #[.int .i64 (k:Int)]) (hne:b≠n)
 (hB:Below w0.heap.size w0 w) (h1:w0.heap.size≤b) (h2:w0.heap.size≤n) :
 Calls Tryz.prog 121 #[.string s,.func (.func 122) #[] #[.pointer (some ⟨b,0,none⟩),.pointer (some ⟨n,0,none⟩)]] w fun e w'=>EC w0 b n (eachF (pieces (tl s)) k v) e w':=by
 have HG:=hid hG;have HB:=hid hB;have Hb:=hid hb;have Hn:=hid hn;have Hne:=hid hne;have H1:=hid h1;have H2:=hid h2;clear hG hB hb hn hne h1 h2;go_enter Tryz.func121,Tryz.ntmps121
 go_wp2;go_loopw [0,5] (fun t m wr=>∃(r:ByteArray) (g:Bool) (j:Nat) (u:List UInt8),t=.string r∧m=.bool g∧r.size≤4000∧j≤6∧Hid (eachF (pieces (tl s)) k v=if g then eachF (pieces (tl r)) j u else (true,j,u))
  ∧ Hid (Has wr b 9 #[.string (ba u)])∧Hid (Has wr n 3 #[.int .i64 (j:Int)])∧Hid (Below w0.heap.size w0 wr))
  (fun t m _=>match t,m with | .string r,.bool true=>r.size+1 | _,_=>0)
 case atStart=>exact ⟨s,true,k,v,rfl,rfl,hs,hk,rfl,Hb,Hn,HB⟩
 case round =>
  obtain ⟨r,g,j,u,rfl,rfl,hr,hj,HE,J1,J2,J3⟩:=hrel
  cases g with
  | false =>
   go_wp2;go_ret;unfold EC;rw [HE.out];exact ⟨rfl,J1.out,J2.out,J3.out⟩
  | true =>
   obtain ⟨p,q,m,HC⟩:∃p q m,Hid (cutS (tl r)=(p,q,m)):=⟨_,_,_,rfl⟩;have hp:p.length≤4000:=by have:=(cutS_len (tl r)).2.1;rw [HC.out,tl_length] at this;simp only at this;omega
   have hq:q.length≤4000:=by have:=(cutS_len (tl r)).1;rw [HC.out,tl_length] at this;simp only at this;omega
   have HQ:Hid (m=true→q.length < r.size):=by intro hm;have:=(cutS_len (tl r)).2.2;rw [HC.out,tl_length] at this;exact this hm
   have HP:Hid (eachF (pieces (tl r)) j u=if decide (j+1≤6)&&nameB p then (if m then eachF (pieces q) (j+1) p else (true,j+1,p)) else (false,j+1,p)):=by
    show _=_
    rw [pieces_cut,HC.out]
    cases m<;>rfl
   obtain ⟨c,HV⟩:∃c,Hid ((decide (j+1≤6)&&nameB p)=c):=⟨_,rfl⟩;have hps:(ba p).size≤140737488355328:=by rw [ba_size];omega
   have HF:Hid (∀(W:World),Has W b 9 #[.string (ba u)]→Has W n 3 #[.int .i64 (j:Int)]→Calls Tryz.prog 122 #[.string (ba p),.pointer (some ⟨b,0,none⟩),.pointer (some ⟨n,0,none⟩)] W fun e w'=>e=.returned (.bool c)∧FC b n (ba p) j W w'):=by
    intro W h1 h2;have:=findC_any (ba p) b n _ j W hps hj h1 h2 Hne.out;rw [tl_ba,HV.out] at this;exact this
   cases c with
   | false =>
    go_wp2_with (first
     | (go_at_call 90;refine (cut_any r p q m HC wr (HG.out.kept J3.out) (by omega)).mono ?_;rintro e1 w1 ⟨rfl,nd,rfl⟩)
     | (go_at_call 122;refine (HF.out _ (J1.out.drawn nd) (J2.out.drawn nd)).mono ?_;rintro e2 w2 ⟨rfl,hfc⟩;have FC1:=hid hfc;clear hfc))
    go_ret;obtain ⟨F1,F2,F3⟩:=FC1.out.post (J1.out.drawn nd) (J2.out.drawn nd) Hne.out (J3.out.drewN' nd) H1.out H2.out;unfold EC;rw [HE.out,if_pos trivial,HP.out,HV.out,if_neg (by decide)]
    exact ⟨rfl,F1,F2,F3⟩
   | true =>
    go_wp2_with (first
     | (go_at_call 90;refine (cut_any r p q m HC wr (HG.out.kept J3.out) (by omega)).mono ?_;rintro e1 w1 ⟨rfl,nd,rfl⟩)
     | (go_at_call 122;refine (HF.out _ (J1.out.drawn nd) (J2.out.drawn nd)).mono ?_;rintro e2 w2 ⟨rfl,hfc⟩;have FC1:=hid hfc;clear hfc))
    have HJ:Hid (j+1≤6):=by
     have:=HV.out;simp only [Bool.and_eq_true,decide_eq_true_eq] at this;exact this.1
    go_roundw
    case rel =>
     obtain ⟨F1,F2,F3⟩:=FC1.out.post (J1.out.drawn nd) (J2.out.drawn nd) Hne.out (J3.out.drewN' nd) H1.out H2.out;exact ⟨ba q,m,j+1,p,rfl,rfl,by rw [ba_size];exact hq,HJ.out,by show _=_;rw [HE.out,if_pos trivial,HP.out,HV.out,if_pos rfl,tl_ba],F1,F2,F3⟩
    case measure =>
     cases m with
     | false=>simp
     | true=>simp [ba_size];exact HQ.out rfl
end Go.Proofs.YtahkcemdbfjilaaGreatDoor
namespace Go.Proofs.YtahkcemdbfjilaaGreatDoor
open Go.RowKit
theorem pieces_len (n:Nat):∀l:List UInt8,l.length≤n→∀p∈pieces l,p.length≤l.length:=by
 induction n with
 | zero=>intro l h p hp;obtain rfl:=List.length_eq_zero_iff.1 (Nat.le_zero.1 h);simp [pieces] at hp;simp [hp]
 | succ n ih =>
  intro l h p hp;rw [pieces_cut] at hp;have h1:=cutS_len l;split at hp
  · rename_i hc
    rcases List.mem_cons.1 hp with rfl | hp
    · exact h1.2.1
    · exact Nat.le_trans (ih _ (by have:=h1.2.2 hc;omega) p hp) h1.1
  · simp only [List.mem_singleton] at hp;subst hp;exact h1.2.1
theorem eachF_len (ps:List (List UInt8)) (m:Nat) (h:∀p∈ps,p.length≤m):∀n b,b.length≤m→(eachF ps n b).2.2.length≤m:=by
 induction ps with
 | nil=>intro n b hb;exact hb
 | cons p ps ih =>
  intro n b hb;unfold eachF;split
  · exact ih (fun q hq=>h q (List.mem_cons_of_mem _ hq)) _ _ (h p List.mem_cons_self)
  · exact h p List.mem_cons_self
theorem ba_take (s:ByteArray) (k:Nat):s.extract 0 k=ba ((tl s).take k):=by
 apply ByteArray.ext;apply Array.ext';simp [ba,tl]
theorem ba_drop (s:ByteArray) (k:Nat):s.extract k s.size=ba ((tl s).drop k):=by
 apply ByteArray.ext;apply Array.ext';simp [ba,tl];rw [List.take_of_length_le];have:=tl_length s;simp [tl] at this ⊢
abbrev plc (v:List UInt8 × List UInt8):Value:=.agg #[.string (ba v.1),.string (ba v.2)]
theorem findV_no {l:List UInt8} (h:mayB l=false):findV l=([],[]):=by simp [findV,h]
theorem findV_yes {l:List UInt8} (h:mayB l=true):findV l=(aheadL l,lastP l):=by simp [findV,h]
theorem iPlace:(Tryz.prog.info? 156).map (·.size)=some 2:=by kernel_rfl
set_option maxHeartbeats 1000000 in
theorem find_any (s:ByteArray) (w:World) (hG:Gd w) (hs:s.size≤4000) :
 Calls Tryz.prog 74 #[.string s] w fun e w'=>e=.returned (plc (findV (tl s)))∧Below w.heap.size w w':=by
 have hmf:∀(fn:Fn) (first cap:Array Value) (w:World),(Instr.makeFunc fn first cap).run Tryz.prog w=.ok (.func fn first cap) w:=fun _ _ _ _=>rfl
 by_cases h160:s.size≤160
 · have g1:¬((160:Int) < (s.size:Int)):=by omega
   have HG:=hid hG;have HG0:Hid (Gd (w.alloc (.cells #[.string ⟨#[]⟩,.string ⟨#[]⟩] 156))):=hG.kept ((Below.refl _ _).alloc (Nat.le_refl _) _);clear hG;obtain ⟨g,n',u,HR⟩:∃g n' u,Hid (eachF (pieces (tl s)) 0 []=(g,n',u)):=⟨_,_,_,rfl⟩;have hu:u.length≤s.size:=by
    have:=eachF_len (pieces (tl s)) (tl s).length (pieces_len _ (tl s) (Nat.le_refl _)) 0 [] (Nat.zero_le _);rw [HR.out,tl_length] at this;exact this
   obtain ⟨b,HB⟩:∃b,Hid (ba u=b):=⟨_,rfl⟩;have hbs:b.size≤s.size:=by rw [←HB.out,ba_size];exact hu
   have HE:Hid (∀W:World,Has W (w.heap.size+1) 9 #[.string (ba [])]→Has W (w.heap.size+2) 3 #[.int .i64 ((0:Nat):Int)]→Below (w.heap.size+1) (w.alloc (.cells #[.string ⟨#[]⟩,.string ⟨#[]⟩] 156)) W →
    Calls Tryz.prog 121 #[.string s,.func (.func 122) #[] #[.pointer (some ⟨w.heap.size+1,0,none⟩),.pointer (some ⟨w.heap.size+2,0,none⟩)]] W fun e w'=>e=.returned (.bool g)∧Has w' (w.heap.size+1) 9 #[.string b]∧Below (w.heap.size+1) (w.alloc (.cells #[.string ⟨#[]⟩,.string ⟨#[]⟩] 156)) w'):=by
    intro W h1 h2 h3;refine (each_any s (w.heap.size+1) (w.heap.size+2) [] 0 (w.alloc (.cells #[.string ⟨#[]⟩,.string ⟨#[]⟩] 156)) W HG0.out hs (by omega) h1 h2 (by omega) (by simpa using h3) (by simp) (by simp)).mono fun e w' h=>?_
    unfold EC at h;rw [HR.out,HB.out] at h;exact ⟨h.1,h.2.1,by simpa using h.2.2.2⟩
   have HZ:Hid (Has (w.alloc (.cells #[.string ⟨#[]⟩,.string ⟨#[]⟩] 156)) w.heap.size 156 #[.string ⟨#[]⟩,.string ⟨#[]⟩]):=Has.fresh _ _ _;obtain ⟨k,HK⟩:∃k:Nat,Hid (k=s.size - b.size - 1):=⟨_,rfl⟩;have hk1:max (0:Int) ((s.size:Int) - (b.size:Int) - 1)=(k:Int):=by have:=HK.out;omega
   have hk2:(k:Int)≤(s.size:Int):=by have:=HK.out;omega
   cases g with
   | false =>
    have HF:Hid (findV (tl s)=([],[])):=findV_no (by rw [mayB,←goodB_each,HR.out];simp)
    go_enter Tryz.func74,Tryz.ntmps74
    go_wp2_with (first
     | (go_at_call 121;refine (HE.out _ (Has.more (Has.fresh' _ _ _ (by simp)) _) (Has.fresh' _ _ _ (by simp)) ((Below.refl _ _).alloc (by simp) _ |>.alloc (by simp) _)).mono ?_;rintro e1 w1 ⟨rfl,hb1,hw1⟩
        have c1:w1.cell? ⟨w.heap.size+1,0,none⟩=some (.string b):=hb1.at_ 0;have R1:Hid (Has w1 w.heap.size 156 #[.string ⟨#[]⟩,.string ⟨#[]⟩]):=HZ.out.kept hw1 (by omega)
        have c2:w1.cell? ⟨w.heap.size,0,none⟩=some (.string ⟨#[]⟩):=R1.out.at_ 0;have c3:w1.cell? ⟨w.heap.size,1,none⟩=some (.string ⟨#[]⟩):=R1.out.at_ 1;have f2:=R1.out.free 0;have f3:=R1.out.free 1;have W1:=hid hw1;clear hb1 hw1))
    refine bodyPost_ret (results_cell_row rfl _ _ w.heap.size 156 #[.string ⟨#[]⟩,.string ⟨#[]⟩] (0,0) _ rfl ((R1.out.put 0 _).put 1 _) Tryz.underlying156 rfl iPlace) rfl ⟨by rw [HF.out];rfl,?_⟩
    exact ((((Below.refl _ _).alloc (Nat.le_refl _) _).trans (W1.out.mono (by omega))).setCell (Nat.le_refl _) _).setCell (Nat.le_refl _) _
   | true =>
    have hgood:goodB (tl s)=true:=by rw [←goodB_each,HR.out]
    have hlast:tl b=lastP (tl s):=by rw [←goodB_base _ hgood,HR.out,←HB.out];rfl
    have hah:aheadL (tl s)=(tl s).take k:=by rw [aheadL,HK.out,←hlast,tl_length,tl_length]
    have HS:Hid (b=ba (lastP (tl s))):=by show _=_;rw [←hlast,ba_tl]
    by_cases h111:k≤111
    · have HF:Hid (findV (tl s)=((tl s).take k,lastP (tl s))):=by
       show _=_
       rw [findV_yes,hah];rw [mayB,hgood,tl_length,hah,List.length_take,tl_length,decide_eq_true h160,decide_eq_true (by omega)];rfl
      have g3:((min k s.size:Nat):Int)≤111:=by omega
      clear hgood hlast hah h111;go_enter Tryz.func74,Tryz.ntmps74
      go_wp2_with (first
       | (go_at_call 121;refine (HE.out _ (Has.more (Has.fresh' _ _ _ (by simp)) _) (Has.fresh' _ _ _ (by simp)) ((Below.refl _ _).alloc (by simp) _ |>.alloc (by simp) _)).mono ?_;rintro e1 w1 ⟨rfl,hb1,hw1⟩
          have c1:w1.cell? ⟨w.heap.size+1,0,none⟩=some (.string b):=hb1.at_ 0;have R1:Hid (Has w1 w.heap.size 156 #[.string ⟨#[]⟩,.string ⟨#[]⟩]):=HZ.out.kept hw1 (by omega)
          have c2:w1.cell? ⟨w.heap.size,0,none⟩=some (.string ⟨#[]⟩):=R1.out.at_ 0;have c3:w1.cell? ⟨w.heap.size,1,none⟩=some (.string ⟨#[]⟩):=R1.out.at_ 1;have f2:=R1.out.free 0;have f3:=R1.out.free 1;have W1:=hid hw1;clear hb1 hw1))
      refine bodyPost_ret (results_cell_row rfl _ _ w.heap.size 156 _ (0,0) _ rfl ((R1.out.put 0 _).put 1 _) Tryz.underlying156 rfl iPlace) rfl ⟨?_,?_⟩
      · rw [HF.out]
        show Ending.returned (.agg #[.string (s.extract 0 k),.string b])=_
        rw [ba_take,HS.out]
      · exact ((((Below.refl _ _).alloc (Nat.le_refl _) _).trans (W1.out.mono (by omega))).setCell (Nat.le_refl _) _).setCell (Nat.le_refl _) _
    · have HF:Hid (findV (tl s)=([],[])):=by
       show _=_
       rw [findV_no];rw [mayB,hgood,tl_length,hah,List.length_take,tl_length,decide_eq_true h160,decide_eq_false (by have:=HK.out;omega)];rfl
      have g3:¬(((min k s.size:Nat):Int)≤111):=by have:=HK.out;omega
      clear hgood hlast hah h111;go_enter Tryz.func74,Tryz.ntmps74
      go_wp2_with (first
       | (go_at_call 121;refine (HE.out _ (Has.more (Has.fresh' _ _ _ (by simp)) _) (Has.fresh' _ _ _ (by simp)) ((Below.refl _ _).alloc (by simp) _ |>.alloc (by simp) _)).mono ?_;rintro e1 w1 ⟨rfl,hb1,hw1⟩
          have c1:w1.cell? ⟨w.heap.size+1,0,none⟩=some (.string b):=hb1.at_ 0;have R1:Hid (Has w1 w.heap.size 156 #[.string ⟨#[]⟩,.string ⟨#[]⟩]):=HZ.out.kept hw1 (by omega)
          have c2:w1.cell? ⟨w.heap.size,0,none⟩=some (.string ⟨#[]⟩):=R1.out.at_ 0;have c3:w1.cell? ⟨w.heap.size,1,none⟩=some (.string ⟨#[]⟩):=R1.out.at_ 1;have f2:=R1.out.free 0;have f3:=R1.out.free 1;have W1:=hid hw1;clear hb1 hw1))
      refine bodyPost_ret (results_cell_row rfl _ _ w.heap.size 156 #[.string ⟨#[]⟩,.string ⟨#[]⟩] (0,0) _ rfl ((R1.out.put 0 _).put 1 _) Tryz.underlying156 rfl iPlace) rfl ⟨by rw [HF.out];rfl,?_⟩
      exact ((((Below.refl _ _).alloc (Nat.le_refl _) _).trans (W1.out.mono (by omega))).setCell (Nat.le_refl _) _).setCell (Nat.le_refl _) _
 · have g1:(160:Int) < (s.size:Int):=by omega
   have hf:mayB (tl s)=false:=by simp [mayB,h160]
   have HF:=hid (findV_no hf);clear hf hG;go_enter Tryz.func74,Tryz.ntmps74
   go_wp2;refine bodyPost_ret (results_cell_row rfl _ _ w.heap.size 156 #[.string ⟨#[]⟩,.string ⟨#[]⟩] (0,0) _ rfl (Has.fresh _ _ _) Tryz.underlying156 rfl iPlace) rfl ⟨by rw [HF.out];rfl,?_⟩
   exact (Below.refl _ _).alloc (Nat.le_refl _) _
end Go.Proofs.YtahkcemdbfjilaaGreatDoor
namespace Go.Proofs.YtahkcemdbfjilaaGreatDoor
open Go.RowKit
theorem find_no (s:ByteArray) (h:mayB (tl s)=false) (w:World) (hG:Gd w) (hs:s.size≤4000) :
 Calls Tryz.prog 74 #[.string s] w fun e w'=>e=.returned (.agg #[.string ⟨#[]⟩,.string ⟨#[]⟩])∧Below w.heap.size w w':=by
 have:=find_any s w hG hs;rw [findV_no h] at this;exact this
theorem find_yes (s a b:ByteArray) (h:Hid (mayB (tl s)=true∧ba (aheadL (tl s))=a∧ba (lastP (tl s))=b)) (w:World) (hG:Gd w) (hs:s.size≤4000) :
 Calls Tryz.prog 74 #[.string s] w fun e w'=>e=.returned (.agg #[.string a,.string b])∧Below w.heap.size w w':=by
 have:=find_any s w hG hs;rw [findV_yes h.out.1,plc,h.out.2.1,h.out.2.2] at this;exact this
theorem last_ne {s b:ByteArray} (h:mayB (tl s)=true) (hb:ba (lastP (tl s))=b):¬b.toList=[]:=by
 rw [toList_tl,←hb,tl_ba];exact mayB_last h
set_option maxHeartbeats 400000 in
theorem may_any (s:ByteArray) (w:World) (hG:Gd w) (hs:s.size≤4000) :
 Calls Tryz.prog 99 #[.string s] w fun e w'=>e=.returned (.bool (mayB (tl s)))∧Below w.heap.size w w':=by
 have HG:=hid hG;clear hG
 cases hm:mayB (tl s) with
 | false =>
  have HM:=hid hm;clear hm;go_enter Tryz.func99,Tryz.ntmps99
  go_wp2_with (go_at_call 74;refine (find_no s HM.out _ HG.out hs).mono ?_;rintro e1 w1 ⟨rfl,hb1⟩;have B1:=hid hb1;clear hb1)
  go_ret;exact ⟨rfl,B1.out⟩
 | true =>
  obtain ⟨a,b,HV⟩:∃a b,Hid (mayB (tl s)=true∧ba (aheadL (tl s))=a∧ba (lastP (tl s))=b):=⟨_,_,hm,rfl,rfl⟩;have hb:¬b.toList=[]:=last_ne hm HV.out.2.2;clear hm;by_cases ha:a.toList=[]
  all_goals
   go_enter Tryz.func99,Tryz.ntmps99
   go_wp2_with (go_at_call 74;refine (find_yes s a b HV _ HG.out hs).mono ?_;rintro e1 w1 ⟨rfl,hb1⟩;have B1:=hid hb1;clear hb1)
   go_ret;exact ⟨rfl,B1.out⟩
set_option maxHeartbeats 400000 in
theorem parent_any (s:ByteArray) (w:World) (hG:Gd w) (hs:s.size≤4000) :
 Calls Tryz.prog 31 #[.string s] w fun e w'=>e=.returned (.tuple #[.string (ba (findV (tl s)).1),.bool (mayB (tl s))])∧Below w.heap.size w w':=by
 have HG:=hid hG;clear hG
 cases hm:mayB (tl s) with
 | false =>
  have HM:=hid hm;have HF:=hid (findV_no hm);clear hm;go_enter Tryz.func31,Tryz.ntmps31
  go_wp2_with (go_at_call 74;refine (find_no s HM.out _ HG.out hs).mono ?_;rintro e1 w1 ⟨rfl,hb1⟩;have B1:=hid hb1;clear hb1)
  go_quiet (fail)
  go_wp2;go_ret2;exact ⟨by rw [HF.out];rfl,(B1.out.alloc B1.out.size _).drewN' _⟩
 | true =>
  obtain ⟨a,b,HV⟩:∃a b,Hid (mayB (tl s)=true∧ba (aheadL (tl s))=a∧ba (lastP (tl s))=b):=⟨_,_,hm,rfl,rfl⟩;have hb:¬b.toList=[]:=last_ne hm HV.out.2.2;have HF:=hid (findV_yes hm);clear hm;by_cases ha:a.toList=[]
  all_goals
   go_enter Tryz.func31,Tryz.ntmps31
   go_wp2_with (go_at_call 74;refine (find_yes s a b HV _ HG.out hs).mono ?_;rintro e1 w1 ⟨rfl,hb1⟩;have B1:=hid hb1;clear hb1)
   go_quiet (fail)
   go_wp2;go_ret2;exact ⟨by rw [HF.out];simp only [HV.out.2.1];rfl,(B1.out.alloc B1.out.size _).drewN' _⟩
def withinB (p d:List UInt8):Bool:=if d=[] then mayB p else mayB p&&mayB d&&(d++[47]).isPrefixOf p
theorem hasPrefix_s (s p:ByteArray) (w:World):Calls Tryz.prog 75 #[.string s,.string p] w fun e w'=>e=.returned (.bool (Lib.hasPrefix (tl s) (tl p)))∧w=w' :=
 (Tryz.strings_HasPrefix s p w).mono fun _ _ ⟨a,b⟩=>⟨a,b.symm⟩
set_option maxHeartbeats 400000 in
theorem within_any (p d:ByteArray) (w:World) (hG:Gd w) (hp:p.size≤4000) (hd:d.size≤4000) :
 Calls Tryz.prog 51 #[.string p,.string d] w fun e w'=>e=.returned (.bool (withinB (tl p) (tl d)))∧Below w.heap.size w w':=by
 have HG:=hid hG;clear hG;by_cases h0:d.toList=[]
 · have HW:Hid (withinB (tl p) (tl d)=mayB (tl p)):=by show _=_;rw [withinB,if_pos (by rw [←toList_tl,h0])]
   go_enter Tryz.func51,Tryz.ntmps51
   go_wp2_with (go_at_call 99;refine (may_any p _ HG.out hp).mono ?_;rintro e1 w1 ⟨rfl,hb1⟩;have B1:=hid hb1;clear hb1)
   go_ret;exact ⟨by rw [HW.out];rfl,B1.out⟩
 · have h0':d.toList.isEmpty=false:=by simpa using h0
   have HW:Hid (withinB (tl p) (tl d)=(mayB (tl p)&&mayB (tl d)&&(tl d++[47]).isPrefixOf (tl p))):=by show _=_;rw [withinB,if_neg (by rw [←toList_tl];exact h0)]
   cases h1:mayB (tl p) with
   | false =>
    have M1:Hid (∀W,Gd W→Calls Tryz.prog 99 #[.string p] W fun e w'=>e=.returned (.bool false)∧Below W.heap.size W w'):=by
     intro W h;rw [←h1];exact may_any p W h hp
    have H1:=hid h1;clear h1;go_enter Tryz.func51,Tryz.ntmps51
    go_wp2_with (go_at_call 99;refine (M1.out _ HG.out).mono ?_;rintro e1 w1 ⟨rfl,hb1⟩;have B1:=hid hb1;clear hb1)
    go_ret;exact ⟨by rw [HW.out,H1.out];rfl,B1.out⟩
   | true =>
    have M1:Hid (∀W,Gd W→Calls Tryz.prog 99 #[.string p] W fun e w'=>e=.returned (.bool true)∧Below W.heap.size W w'):=by
     intro W h;rw [←h1];exact may_any p W h hp
    have H1:=hid h1;clear h1
    cases h2:mayB (tl d) with
    | false =>
     have M2:Hid (∀W,Gd W→Calls Tryz.prog 99 #[.string d] W fun e w'=>e=.returned (.bool false)∧Below W.heap.size W w'):=by
      intro W h;rw [←h2];exact may_any d W h hd
     have H2:=hid h2;clear h2;go_enter Tryz.func51,Tryz.ntmps51
     go_wp2_with fail
     refine (M1.out _ HG.out).mono ?_;rintro e1 w1 ⟨rfl,hb1⟩;have B1:=hid hb1;clear hb1;go_wp2_with fail
     refine (M2.out _ (HG.out.kept B1.out)).mono ?_;rintro e2 w2 ⟨rfl,hb2⟩;have B2:Hid (Below w.heap.size w w2):=B1.out.trans (hb2.mono B1.out.size);clear hb2;go_wp2;go_ret;exact ⟨by rw [HW.out,H1.out,H2.out];rfl,B2.out⟩
    | true =>
     have M2:Hid (∀W,Gd W→Calls Tryz.prog 99 #[.string d] W fun e w'=>e=.returned (.bool true)∧Below W.heap.size W w'):=by
      intro W h;rw [←h2];exact may_any d W h hd
     have H2:=hid h2;clear h2;go_enter Tryz.func51,Tryz.ntmps51
     go_wp2_with fail
     refine (M1.out _ HG.out).mono ?_;rintro e1 w1 ⟨rfl,hb1⟩;have B1:=hid hb1;clear hb1;go_wp2_with fail
     refine (M2.out _ (HG.out.kept B1.out)).mono ?_;rintro e2 w2 ⟨rfl,hb2⟩;have B2:Hid (Below w.heap.size w w2):=B1.out.trans (hb2.mono B1.out.size);clear hb2;go_wp2_with fail
     refine (hasPrefix_s p _ _).mono ?_;rintro e3 w3 ⟨rfl,rfl⟩;go_wp2;go_ret;refine ⟨?_,B2.out⟩;rw [HW.out,H1.out,H2.out];rfl
end Go.Proofs.YtahkcemdbfjilaaGreatDoor
namespace Go.Proofs.YtahkcemdbfjilaaGreatDoor
open Go.RowKit
theorem aheadL_len (l:List UInt8):(aheadL l).length≤l.length:=by rw [aheadL,List.length_take];omega
theorem cmpL_vals (a b:List UInt8):cmpL a b = -1∨cmpL a b=0∨cmpL a b=1:=by
 fun_induction cmpL a b<;>simp_all
theorem rk_inj {x y:UInt8} (h:rk x=rk y):x=y:=by
 unfold rk at h;split at h<;>split at h
 · simp_all
 · omega
 · omega
 · exact UInt8.toNat_inj.1 (by omega)
theorem cmpL_self (a:List UInt8):cmpL a a=0:=by
 induction a with
 | nil=>rfl
 | cons x a ih=>rw [cmpL,if_pos rfl,ih]
theorem cmpL_neg (a b:List UInt8):cmpL b a = -cmpL a b:=by
 induction a generalizing b with
 | nil=>cases b<;>simp [cmpL]
 | cons x a ih =>
  cases b with
  | nil=>simp [cmpL]
  | cons y b =>
   rw [cmpL,cmpL];by_cases h:x=y
   · subst h;rw [if_pos rfl,if_pos rfl,ih]
   · rw [if_neg h,if_neg (Ne.symm h)]
     have:rk x≠rk y:=fun e=>h (rk_inj e)
     split<;>split<;>first | omega | rfl
theorem cmpL_zero (a b:List UInt8):cmpL a b=0↔a=b:=by
 constructor
 · intro h
   induction a generalizing b with
   | nil=>cases b<;>simp [cmpL] at h ⊢
   | cons x a ih =>
    cases b with
    | nil=>simp [cmpL] at h
    | cons y b =>
     rw [cmpL] at h;split at h
     · rename_i e;rw [e,ih b h]
     · split at h<;>simp at h
 · rintro rfl;exact cmpL_self a
theorem cmpL_trans (a b c:List UInt8) (h1:cmpL a b = -1) (h2:cmpL b c = -1):cmpL a c = -1:=by
 induction a generalizing b c with
 | nil =>
  cases c with
  | nil=>cases b<;>simp [cmpL] at h1 h2
  | cons z c=>rfl
 | cons x a ih =>
  cases b with
  | nil=>simp [cmpL] at h1
  | cons y b =>
   cases c with
   | nil=>simp [cmpL] at h2
   | cons z c =>
    rw [cmpL] at h1 h2 ⊢;by_cases h:x=y
    · subst h
      rw [if_pos rfl] at h1;by_cases h':x=z
      · subst h';rw [if_pos rfl] at h2 ⊢;exact ih b c h1 h2
      · rw [if_neg h'] at h2 ⊢;exact h2
    · rw [if_neg h] at h1
      by_cases h':y=z
      · subst h';rw [if_neg h];exact h1
      · rw [if_neg h'] at h2
        have l1:rk x < rk y:=by split at h1;assumption;simp at h1
        have l2:rk y < rk z:=by split at h2;assumption;simp at h2
        have hne:x≠z:=by rintro rfl;omega
        rw [if_neg hne,if_pos (by omega)]
end Go.Proofs.YtahkcemdbfjilaaGreatDoor
namespace Go.Proofs.YtahkcemdbfjilaaGreatDoor
open Go.RowKit
theorem prefix_join (d r:List UInt8):(d++[47]).isPrefixOf (d++47 :: r)=true :=
 List.isPrefixOf_iff_prefix.2 ⟨r,by simp⟩
theorem mayB_nil:mayB []=false:=by decide +kernel
theorem withinB_mk {p d:List UInt8} (hp:mayB p=true) (hd:mayB d=true) (h:∃r,p=d++47 :: r):withinB p d=true:=by
 have h0:d≠[]:=by rintro rfl;rw [mayB_nil] at hd;cases hd
 obtain ⟨r,hr⟩:=h;rw [withinB,if_neg h0,hp,hd,hr,prefix_join];rfl
end Go.Proofs.YtahkcemdbfjilaaGreatDoor
