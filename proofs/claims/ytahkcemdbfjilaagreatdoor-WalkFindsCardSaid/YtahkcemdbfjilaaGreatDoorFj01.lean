/- Texts. Conditions: as said. -/
import Derived.Test.YtahkcemdbfjilaaGreatDoorFj00
import Derived.Shelf.Strings.Builder1
import Derived.Shelf.Strings.Builder2
import Derived.Shelf.Strings.OnBuilder
import Derived.Shelf.Small.Utf8
import Derived.Shelf.Small.Bits
import Derived.Shelf.Small.Strs
import Derived.Shelf.Small.Wraps
import Derived.Shelf.Strings.BuilderF
import Derived.Shelf.Strconv.Itoa0
import Derived.Shelf.LaysM
import Derived.Shelf.Strconv.Clone
import Derived.Shelf.Strings.Search1
import Derived.Shelf.Strings.Search2
import Derived.Shelf.Strings.Search3
import Derived.Shelf.Strings.Cut
import Derived.Shelf.Strings.Shaped
import Derived.Shelf.Sort.Plain
import Derived.Shelf.Strings.LastIndex
import Derived.Shelf.Strings.Prefix
import Derived.Shelf.Strings.Runes
import Derived.Shelf.Strings.AsciiSet
import Derived.Shelf.Bits.Mul64
import Derived.Shelf.Unicode.DecodeSlow
import Derived.Shelf.Slices.Turned
import Derived.Shelf.Slices.In.SortNone
import Derived.Ground.SlgfProg
import Derived.Shelf.SlicesE.IndexFunc
import Derived.Shelf.SlicesE.DeleteFunc
import Derived.Ground.SlsfProg
import Derived.Shelf.SlSortCmp.Insertion
import Derived.Shelf.SlSortCmp.SiftDown1
import Derived.Shelf.SlSortCmp.HeapSort1
import Derived.Shelf.SlSortCmp.Insertion1
import Derived.Shelf.SlSortCmp.Median1
import Derived.Shelf.SlSortCmp.Pivot1
import Derived.Shelf.SlSortCmp.ReverseRange1
import Derived.Shelf.SlSortCmp.PartitionEqual1
import Derived.Test.YtahkcemdbfjilaaGreatDoorProg
import Derived.WalkKit
import Derived.WalkSpells
import Derived.WalkLawsBesides
import Derived.BigQuiet
import Derived.Deep.QuietTactic
import Derived.Deep.Draws
import Derived.ChangeAgain
import Derived.Lib.LaidTab
import Derived.WalkMore
import Derived.Lib.IndexMore
import Derived.Deep.DeepFit
import Derived.OneCell
import Derived.Lib.SmallJoins
set_option linter.all false
set_option maxRecDepth 100000
set_option maxHeartbeats 32000000
namespace Go.Proofs
open Go.Shelf
def Tryz.lays156_ren:Go.Shelf.Ren:=⟨fun | 156=>29 | 165=>71 | 166=>72 | 169=>73 | 240=>119 | 241=>120 | 276=>172 | 277=>173 | n=>n,fun | 31=>34 | 9=>9 | 3=>3 | 4=>4 | 0=>0 | 20=>20 | 72=>148 | 76=>152 | 70=>146 | 37=>79 | 75=>151 | 127=>191 | 164=>240 | 5=>5 | 80=>154 | n=>n,fun | n=>n⟩
theorem Tryz.lays156:Go.Proofs.Lays.n156 Tryz.prog Tryz.lays156_ren:=by
 constructor
 all_goals first|kernel_rfl|(intros;kernel_rfl)|(constructor<;>first|kernel_rfl|(intros;kernel_rfl))
theorem Tryz.Builder_Extra_156:Builder.Extra Tryz.prog Tryz.lays156_ren:=by
 constructor
 case neB5=>exact by decide
 all_goals first|kernel_rfl|(intros;kernel_rfl)|(constructor<;>first|kernel_rfl|(intros;kernel_rfl))
open Go.RowKit in
theorem Tryz.strings_Join (bk o c:Nat) (xs:List ByteArray) (sep:ByteArray) (w:World) (hcells:∀(j:Nat) x,xs[j]? = some x->w.cell? ⟨bk,o+j,none⟩=some (.string x)) (NC:bk < w.heap.size) (hN:xs.length<=140737488355328) (xa:xs.length<=c) (f8:(Lib.join (xs.map (·.data.toList)) sep.data.toList).length<=140737488355328) :
 Calls Tryz.prog 29 #[.slice (some ⟨bk,o,none⟩) xs.length c,.string sep] w fun e w'=>e=.returned (.string ⟨(Lib.join (xs.map (·.data.toList)) sep.data.toList).toArray⟩)/\Below w.heap.size w w':=Any.strings_Join Tryz.lays156 Tryz.Builder_Extra_156 bk o c xs sep w hcells NC hN xa f8
def Tryz.lays103_ren:Go.Shelf.Ren:=⟨fun | 103=>47 | 210=>92 | 206=>124 | n=>n,fun | 9=>9 | 4=>4 | 24=>84 | 3=>3 | n=>n,fun | n=>n⟩
theorem Tryz.lays103:Go.Proofs.Lays.n103 Tryz.prog Tryz.lays103_ren:=by
 constructor
 all_goals first|kernel_rfl|(intros;kernel_rfl)|(constructor<;>first|kernel_rfl|(intros;kernel_rfl))
open Go.RowKit in
theorem Tryz.strings_CutPrefix (s p:ByteArray) (w:World) :
 Calls Tryz.prog 47 #[.string s,.string p] w fun e w'=>e=.returned (.tuple #[.string ⟨(Lib.trimPrefix s.data.toList p.data.toList).toArray⟩,.bool (Lib.hasPrefix s.data.toList p.data.toList)])/\w'=w:=Any.strings_CutPrefix Tryz.lays103 s p w
def Tryz.lays122_ren:Go.Shelf.Ren:=⟨fun | 122=>205 | 215=>246 | n=>n,fun | 3=>3 | 4=>4 | n=>n,fun | n=>n⟩
theorem Tryz.lays122:Go.Proofs.Lays.n122 Tryz.prog Tryz.lays122_ren:=by
 constructor
 all_goals first|kernel_rfl|(intros;kernel_rfl)|(constructor<;>first|kernel_rfl|(intros;kernel_rfl))
open Go.RowKit in
theorem Tryz.cmp_Compare_int (x y:Int) (w:World) :
 Calls Tryz.prog 205 #[.int .i64 x,.int .i64 y] w fun e w'=>e=.returned (.int .i64 (Lib.compareInt x y))/\w'=w:=Any.cmp_Compare_int Tryz.lays122 x y w
def Tryz.laysM316_ren:Go.Shelf.Ren:=⟨fun | 316=>126 | n=>n,fun | 9=>9 | 3=>3 | 4=>4 | 37=>79 | 0=>0 | 127=>191 | 5=>5 | n=>n,fun | n=>n⟩
theorem Tryz.laysM316:Go.Proofs.LaysM.n316 Tryz.prog Tryz.laysM316_ren:=by
 constructor
 all_goals first|kernel_rfl|(intros;kernel_rfl)|(constructor<;>first|kernel_rfl|(intros;kernel_rfl))
open Go.RowKit in
theorem Tryz.stringslite_Clone (s:ByteArray) (w:World) (hlim:s.size<=281474976710656) :
 Calls Tryz.prog 126 #[.string s] w fun e w'=>e=.returned (.string s)/\Below w.heap.size w w':=Any.stringslite_Clone Tryz.laysM316 s w hlim
def Tryz.lays144_ren:Go.Shelf.Ren:=⟨fun | 144=>152 | 143=>188 | 219=>178 | 217=>210 | 225=>211 | 224=>212 | 267=>213 | 266=>248 | 314=>249 | n=>n,fun | 9=>9 | 4=>4 | 3=>3 | 5=>5 | 46=>239 | 146=>307 | 51=>53 | n=>n,fun | 1=>1 | n=>n⟩
theorem Tryz.lays144:Go.Proofs.Lays.n144 Tryz.prog Tryz.lays144_ren:=by
 constructor
 all_goals first|kernel_rfl|(intros;kernel_rfl)|(constructor<;>first|kernel_rfl|(intros;kernel_rfl))
open Go.RowKit Go.Lib in
theorem Tryz.strings_Contains_one (s:ByteArray) (c:UInt8) (w:World) :
 Calls Tryz.prog 152 #[.string s,.string ⟨#[c]⟩] w fun e w'=>e=.returned (.bool (decide (0<=Lib.indexByte s.data.toList c)))/\w'=w:=Any.strings_Contains_one Tryz.lays144 s c w
def Tryz.laysM145_ren:Go.Shelf.Ren:=⟨fun | 145=>90 | 220=>138 | 219=>178 | 217=>210 | 225=>211 | 224=>212 | 267=>213 | 266=>248 | 314=>249 | n=>n,fun | 9=>9 | 4=>4 | 59=>166 | 3=>3 | 5=>5 | 46=>239 | 146=>307 | 51=>53 | n=>n,fun | 1=>1 | n=>n⟩
theorem Tryz.laysM145:Go.Proofs.LaysM.n145 Tryz.prog Tryz.laysM145_ren:=by
 constructor
 case s1_3=>exact fun w h=>Go.Proofs.cell_of_shapedOpen_int (zero:=#[.int .i64 0]) (t:=3) h (of_decide_eq_true (by kernel_rfl)) (by kernel_rfl) rfl (by kernel_rfl) (by kernel_rfl) Tryz.underlying3
 all_goals first|kernel_rfl|(intros;kernel_rfl)|(constructor<;>first|kernel_rfl|(intros;kernel_rfl))
open Go.RowKit Go.Lib in
theorem Tryz.strings_Cut_shaped (s sep:ByteArray) (w:World) (h:w.ShapedOpen Tryz.prog) (hs:s.size < 4294967281) :
 Calls Tryz.prog 90 #[.string s,.string sep] w fun e w'=>e=.returned (.tuple #[.string ⟨(Lib.cut s.data.toList sep.data.toList).1.toArray⟩,.string ⟨(Lib.cut s.data.toList sep.data.toList).2.1.toArray⟩,.bool (Lib.cut s.data.toList sep.data.toList).2.2])/\∃n,w'=w.drewN n:=Any.strings_Cut_shaped Tryz.laysM145 s sep w h hs
def Tryz.lays190_ren:Go.Shelf.Ren:=⟨fun | 190=>155 | 125=>191 | 258=>190 | 128=>231 | 129=>232 | 302=>222 | 303=>223 | 304=>224 | 305=>225 | 306=>226 | 307=>227 | 308=>228 | 309=>229 | 310=>230 | 333=>261 | 329=>262 | 330=>263 | 334=>264 | 335=>265 | 336=>266 | 344=>275 | n=>n,fun | 31=>34 | 9=>9 | 3=>3 | 46=>239 | 0=>0 | 51=>53 | 53=>266 | 4=>4 | 183=>286 | 182=>285 | 131=>108 | 5=>5 | 218=>319 | 222=>323 | 228=>330 | 229=>331 | n=>n,fun | n=>n⟩
theorem Tryz.lays190:Go.Proofs.Lays.n190 Tryz.prog Tryz.lays190_ren:=by
 constructor
 all_goals first|kernel_rfl|(intros;kernel_rfl)|(constructor<;>first|kernel_rfl|(intros;kernel_rfl))
open Go.Sort Go.RowKit in
theorem Tryz.slices_Sort_string (blk off cap:Nat) (ss:List (List UInt8)) (w:World) (hH:Holds encStr w blk off ss.toArray) (IC:blk < w.heap.size) (p9:ss.length < 4611686018427387904) :
 Calls Tryz.prog 155 #[.slice (some ⟨blk,off,none⟩) ss.length cap] w fun e w' =>
  e=.returned (.tuple #[])/\∃n os,w'=grow (putRow encStr (Sort.ahead w n) blk off (ss.mergeSort fun x y=>decide (x<=y)).toArray) os:=Any.slices_Sort_string Tryz.lays190 blk off cap ss w hH IC p9
def Tryz.lays149_ren:Go.Shelf.Ren:=⟨fun | 149=>125 | 222=>174 | n=>n,fun | 9=>9 | 5=>5 | 3=>3 | 4=>4 | n=>n,fun | n=>n⟩
theorem Tryz.lays149:Go.Proofs.Lays.n149 Tryz.prog Tryz.lays149_ren:=by
 constructor
 all_goals first|kernel_rfl|(intros;kernel_rfl)|(constructor<;>first|kernel_rfl|(intros;kernel_rfl))
open Go.RowKit Go.Lib in
theorem Tryz.strings_LastIndexByte (s:ByteArray) (c:Int) (hs:s.size < 4611686018427387904) (w:World) :
 Calls Tryz.prog 125 #[.string s,.int .u8 c] w fun e w'=>e=.returned (.int .i64 (Lib.lastIndexByte s c))/\w'=w:=Any.strings_LastIndexByte Tryz.lays149 s c hs w
def Tryz.lays99_ren:Go.Shelf.Ren:=⟨fun | 99=>75 | 206=>124 | n=>n,fun | 9=>9 | 4=>4 | 3=>3 | n=>n,fun | n=>n⟩
theorem Tryz.lays99:Go.Proofs.Lays.n99 Tryz.prog Tryz.lays99_ren:=by
 constructor
 all_goals first|kernel_rfl|(intros;kernel_rfl)|(constructor<;>first|kernel_rfl|(intros;kernel_rfl))
open Go.RowKit Go.Lib in
theorem Tryz.strings_HasPrefix (s p:ByteArray) (w:World) :
 Calls Tryz.prog 75 #[.string s,.string p] w fun e w'=>e=.returned (.bool (Lib.hasPrefix s.data.toList p.data.toList))/\w'=w:=Any.strings_HasPrefix Tryz.lays99 s p w
def Tryz.lays227_ren:Go.Shelf.Ren:=⟨fun | 227=>141 | n=>n,fun | 9=>9 | 116=>203 | 4=>4 | 0=>0 | 3=>3 | 5=>5 | n=>n,fun | n=>n⟩
theorem Tryz.lays227:Go.Proofs.Lays.n227 Tryz.prog Tryz.lays227_ren:=by
 constructor
 all_goals first|kernel_rfl|(intros;kernel_rfl)|(constructor<;>first|kernel_rfl|(intros;kernel_rfl))
open Go.RowKit Go.Lib in
theorem Tryz.strings_makeASCIISet (hv116:∀w,(zeroValue 203).run Tryz.prog w=.ok (.agg (Array.replicate 256 (.bool false))) w) (chars:ByteArray) (w:World) (hs:chars.size < 4294967281) (hascii:∀(j:Nat) b,chars.data.toList[j]? = some b->b.toNat < 128) :
 Calls Tryz.prog 141 #[.string chars] w fun e w'=>e=.returned (.tuple #[.agg (Lib.setCells chars.data.toList),.bool true])/\w'=w.alloc (.cells (Lib.setCells chars.data.toList) 203):=Any.strings_makeASCIISet Tryz.lays227 hv116 (by kernel_rfl) chars w hs hascii
def Tryz.lays228_ren:Go.Shelf.Ren:=⟨fun | 228=>179 | n=>n,fun | 124=>207 | 5=>5 | 4=>4 | 0=>0 | 116=>203 | n=>n,fun | n=>n⟩
theorem Tryz.lays228:Go.Proofs.Lays.n228 Tryz.prog Tryz.lays228_ren:=by
 constructor
 all_goals first|kernel_rfl|(intros;kernel_rfl)|(constructor<;>first|kernel_rfl|(intros;kernel_rfl))
open Go.RowKit Go.Lib in
theorem Tryz.asciiSet_contains (b:Nat) (x:UInt8) (v:Bool) (w:World) (hc:w.cell? ⟨b,x.toNat,none⟩=some (.bool v)) :
 Calls Tryz.prog 179 #[.pointer (some ⟨b,0,none⟩),.int .u8 x.toNat] w fun e w'=>e=.returned (.bool v)/\w'=w:=Any.asciiSet_contains Tryz.lays228 b x v w hc
def Tryz.lays264_ren:Go.Shelf.Ren:=⟨fun | 264=>269 | n=>n,fun | 53=>266 | 46=>239 | n=>n,fun | n=>n⟩
theorem Tryz.lays264:Go.Proofs.Lays.n264 Tryz.prog Tryz.lays264_ren:=by
 constructor
 all_goals first|kernel_rfl|(intros;kernel_rfl)|(constructor<;>first|kernel_rfl|(intros;kernel_rfl))
open Go.RowKit Go.Lib in
theorem Tryz.bits_Mul64 (x y:Nat) (hx:x < 18446744073709551616) (hy:y < 18446744073709551616) (w:World) :
 Calls Tryz.prog 269 #[.int .u64 x,.int .u64 y] w fun e w'=>e=.returned (.tuple #[.int .u64 ((x*y / 18446744073709551616:Nat):Int),.int .u64 ((x*y % 18446744073709551616:Nat):Int)])/\w'=w:=Any.bits_Mul64 Tryz.lays264 x y hx hy w
def Tryz.lays110_ren:Go.Shelf.Ren:=⟨fun | 110=>43 | 109=>89 | n=>n,fun | 31=>34 | 9=>9 | 4=>4 | 3=>3 | 0=>0 | n=>n,fun | n=>n⟩
theorem Tryz.lays110:Go.Proofs.Lays.n110 Tryz.prog Tryz.lays110_ren:=by
 constructor
 all_goals first|kernel_rfl|(intros;kernel_rfl)|(constructor<;>first|kernel_rfl|(intros;kernel_rfl))
open Go.Lib in
theorem Tryz.slices_Contains_string (b off n c:Nat) (zs:List ByteArray) (x:ByteArray) (w:World) (hz:n<=zs.length) (DK:n<=9223372036854775807) (hc:∀j,j < zs.length->w.cell? ⟨b,off+j,none⟩=some (.string (zs.getD j ByteArray.empty))) :
 Calls Tryz.prog 43 #[.slice (some ⟨b,off,none⟩) n c,.string x] w fun e w'=>e=.returned (.bool (Lib.containsS (zs.take n) x))/\w'=w:=Any.slices_Contains_string Tryz.lays110 b off n c zs x w hz DK hc
open Go.Lib in
theorem Tryz.slices_Contains_string_empty (a:Option Addr) (c:Nat) (x:ByteArray) (w:World) :
 Calls Tryz.prog 43 #[.slice a 0 c,.string x] w fun e w'=>e=.returned (.bool false)/\w'=w:=Any.slices_Contains_string_empty Tryz.lays110 a c x w
open Go.RowKit Go.Sort in
theorem Tryz.slices_Sort_string_none (p:Option Addr) (cap:Nat) (w:World) :
 Calls Tryz.prog 155 #[.slice p 0 cap] w fun e w'=>e=.returned (.tuple #[])/\w'=w:=Any.slices_Sort_string_none Tryz.lays190 p cap w
def Tryz.laysSlH6_f189_ren:Go.Shelf.Ren:=⟨fun | 6=>189 | n=>n,fun | 22=>34 | 23=>9 | 25=>87 | 3=>3 | 0=>0 | 4=>4 | n=>n,fun | n=>n⟩
theorem Tryz.laysSlH6_f189:Go.Proofs.SlLaysH.n6 Tryz.prog Tryz.laysSlH6_f189_ren:=by
 constructor
 case f6=>exact ⟨Tryz.f189.name,by decide,Tryz.func189.trans (congrArg some (by kernel_rfl))⟩
 all_goals first|kernel_rfl|(intros;kernel_rfl)|(constructor<;>first|kernel_rfl|(intros;kernel_rfl))
open Go.RowKit Go.Lib in
theorem Tryz.slices_IndexFunc_empty {α:Type} [Inhabited α] (a:Option Addr) (c:Nat) (fv:Value) (w:World) :
 Calls Tryz.prog 189 #[.slice a 0 c,fv] w fun e w'=>e=.returned (.int .i64 (-1))/\w'=w:=AnyE.slices_IndexFunc_empty Tryz.laysSlH6_f189 a c fv w
def Tryz.laysSlH10_f153_ren:Go.Shelf.Ren:=⟨fun | 10=>153 | 6=>189 | n=>n,fun | 22=>34 | 23=>9 | 25=>87 | 3=>3 | 4=>4 | 0=>0 | n=>n,fun | n=>n⟩
theorem Tryz.laysSlH10_f153:Go.Proofs.SlLaysH.n10 Tryz.prog Tryz.laysSlH10_f153_ren:=by
 constructor
 case f6=>exact ⟨Tryz.f189.name,by decide,Tryz.func189.trans (congrArg some (by kernel_rfl))⟩
 case f10=>exact ⟨Tryz.f153.name,by decide,Tryz.func153.trans (congrArg some (by kernel_rfl))⟩
 all_goals first|kernel_rfl|(intros;kernel_rfl)|(constructor<;>first|kernel_rfl|(intros;kernel_rfl))
open Go.RowKit Go.Lib Go.Sort in
theorem Tryz.slices_DeleteFunc {α:Type} [Inhabited α] (enc:α->Value) (hO:OneCell enc) (p:α->Bool) (g:Nat) (lb:Array Value) (eg:∀args w,(callFunc g args).run Tryz.prog w=.ok (.enter g args) w) (zr:α) (v23:∀w,(zeroValue 9).run Tryz.prog w=.ok (enc zr) w) (blk off cap:Nat) (d:Array α) (w:World) (hp:PredAt Tryz.prog g lb enc p w) (yf:PredOver Tryz.prog g lb enc p blk off d.size w) (hH:Holds enc w blk off d) (p9:d.size<=9223372036854775807) (xa:d.size<=cap) :
 Calls Tryz.prog 153 #[.slice (some ⟨blk,off,none⟩) d.size cap,.func (.func g) #[] lb] w fun e w'=>e=.returned (.slice (some ⟨blk,off,none⟩) (d.toList.filter fun x=>!p x).length cap)/\∃q,w'=putRow enc (Sort.ahead w q) blk off ((d.toList.filter fun x=>!p x)++List.replicate (d.size - (d.toList.filter fun x=>!p x).length) zr).toArray:=AnyE.slices_DeleteFunc Tryz.laysSlH10_f153 enc hO p g lb eg zr v23 blk off cap d w hp yf hH p9 xa
end Go.Proofs
namespace Go.RowKit
def Below.drewN' {B:Nat} {a w:World} (h:Below B a w) (n:Nat):Below B a (w.drewN n):=⟨h.os,h.tape,h.output,h.size,h.block⟩
def Below.rowK {B:Nat} {a w:World} (h:Below B a w) {g:Nat} (hg:B<=g) (cs:Array Value):Below B a (w.setRow g cs) :=
 h.trans ⟨rfl,rfl,rfl,by simp,fun k hk=>setRow_other w g k cs (by omega)⟩
end Go.RowKit
namespace Go.Proofs.YtahkcemdbfjilaaGreatDoor
open Go.RowKit
def hid {p:Prop} (h:p):Hid p:=h
def b8 (x:UInt8):Int:=(x.toNat:Int)
def cJ (x:UInt8):0<=b8 x:=by unfold b8;omega
def gH (x:UInt8):b8 x < 256:=by have:=x.toNat_lt;unfold b8;omega
def kO {x y:UInt8} (h:b8 x=b8 y):x=y:=UInt8.toNat_inj.1 (by unfold b8 at h;omega)
abbrev tl (s:ByteArray):List UInt8:=s.data.toList
def at8 (l:List UInt8) (i:Nat):UInt8:=l.getD i 0
def aI (s:ByteArray):(tl s).length=s.size:=by simp [tl]
def aM (x:Int) (h0:-9223372036854775808<=x) (h:x < 9223372036854775808):IntKind.i64.wrap x=x:=by
 simp [IntKind.wrap,IntKind.signed,IntKind.bits];omega
def aX (s:ByteArray) (i:Nat) (h:i < s.size) (w:World):(Instr.index 9 (.string s) (.int .i64 (i:Int))).run Tryz.prog w=.ok (.int .u8 (b8 (at8 (tl s) i))) w:=by
 rw [run_index_string (P:=Tryz.prog) w 9 s .i64 (i:Int) Tryz.underlying9,dif_pos ⟨by omega,by omega⟩];have:s[(i:Int).toNat]'(by simpa using h)=at8 (tl s) i:=by
  have h2:i < s.data.toList.length:=by simpa using h
  show s[i]=_
  simp only [at8,tl,List.getD,List.getElem?_eq_getElem h2,Option.getD_some];rfl
 rw [this];rfl
def rk (c:UInt8):Nat:=if c=47 then 0 else c.toNat+1
def cmpL:List UInt8->List UInt8->Int
 | [],[]=>0
 | [],_ :: _=>-1
 | _ :: _,[]=>1
 | x :: a,y :: b=>if x=y then cmpL a b else if rk x < rk y then -1 else 1
def tF (a b:List UInt8) (k:Nat) (h1:k<=a.length) (h2:k<=b.length) (h:a.take k=b.take k):cmpL a b=cmpL (a.drop k) (b.drop k):=by
 induction k generalizing a b with
 | zero=>rfl
 | succ k ih =>
  match a,b,h1,h2 with
  | x :: a,y :: b,h1,h2 =>
   simp only [List.take_succ_cons,List.cons.injEq] at h;simp only [List.length_cons] at h1 h2;obtain ⟨rfl,h⟩:=h;rw [cmpL,if_pos rfl,ih a b (by omega) (by omega) h];rfl
def Va (a b:List UInt8) (k:Nat) (hk:k=min a.length b.length) (h:a.take k=b.take k):cmpL a b=Lib.compareInt (a.length:Int) (b.length:Int):=by
 rw [tF a b k (by omega) (by omega) h];rcases Nat.lt_trichotomy a.length b.length with h1 | h1 | h1
 . rw [List.drop_of_length_le (l:=a) (by omega),List.drop_eq_getElem_cons (l:=b) (i:=k) (by omega),cmpL]
   simp [Lib.compareInt];omega
 . rw [List.drop_of_length_le (l:=a) (by omega),List.drop_of_length_le (l:=b) (by omega),cmpL]
   simp [Lib.compareInt];omega
 rw [List.drop_of_length_le (l:=b) (by omega),List.drop_eq_getElem_cons (l:=a) (i:=k) (by omega),cmpL];simp [Lib.compareInt];omega
def Hz (a b:List UInt8) (k:Nat) (h1:k < a.length) (h2:k < b.length) (h:a.take k=b.take k) (j3:at8 a k≠at8 b k):cmpL a b=if rk (at8 a k) < rk (at8 b k) then -1 else 1:=by
 rw [tF a b k (by omega) (by omega) h,List.drop_eq_getElem_cons h1,List.drop_eq_getElem_cons h2,cmpL];have e1:at8 a k=a[k]:=by simp [at8,List.getD,List.getElem?_eq_getElem h1]
 have e2:at8 b k=b[k]:=by simp [at8,List.getD,List.getElem?_eq_getElem h2]
 rw [e1,e2] at j3;rw [if_neg j3,e1,e2]
def take_same {a b:List UInt8} {k:Nat} (h1:k < a.length) (h2:k < b.length) (h:a.take k=b.take k) (he:at8 a k=at8 b k):a.take (k+1)=b.take (k+1):=by
 rw [List.take_succ_eq_append_getElem h1,List.take_succ_eq_append_getElem h2,h];have e1:at8 a k=a[k]:=by simp [at8,List.getD,List.getElem?_eq_getElem h1]
 have e2:at8 b k=b[k]:=by simp [at8,List.getD,List.getElem?_eq_getElem h2]
 rw [<-e1,<-e2,he]
def eW {a b:Int} (h:a=b):Ending.returned (.int .i64 a)=.returned (.int .i64 b):=by rw [h]
def Lw (x y:Int) (w:World):qC 205 #[.int .i64 x,.int .i64 y] w fun e w'=>e=.returned (.int .i64 (Lib.compareInt x y))/\w=w' :=
 (Tryz.cmp_Compare_int x y w).mono fun _ _ ⟨a,b⟩=>⟨a,b.symm⟩
def bC (w:World) (a b:Nat):(w.drewN a).drewN b=w.drewN (a+b):=by
 simp [World.drewN,Nat.add_assoc]
def Ze (a b:ByteArray) (w:World) (ha:a.size<=140737488355328) (hb:b.size<=140737488355328) :
 qC 168 #[.string a,.string b] w fun e w'=>e=.returned (.int .i64 (cmpL (tl a) (tl b)))/\∃n,w'=w.drewN n:=by
 go_enter Tryz.func168,Tryz.ntmps168
 go_wp2;go_step3
 go_wp2_with (go_at_call 205;refine (Lw _ _ _).mono ?_;rintro e1 w1 ⟨rfl,rfl⟩)
 go_step3
 go_wp2;go_loopw [5,19] (fun v i wr=>∃k:Nat,k<=a.size/\k<=b.size/\i=.int .i64 (k:Int)/\v=.int .i64 (Lib.compareInt (a.size:Int) (b.size:Int))/\Hid ((tl a).take k=(tl b).take k)/\Hid (∃n,wr=w.drewN n))
  (fun _ i _=>a.size - (intOf i).toNat)
 case atStart=>exact ⟨0,by omega,by omega,rfl,rfl,rfl,0,rfl⟩
 obtain ⟨k,NF,Q9,rfl,rfl,HT,HB⟩:=hrel;by_cases d8:k < a.size/\k < b.size
 .
  obtain ⟨l1,l2⟩:=d8;have i1:=aX a k l1;have i2:=aX b k l2;have HS:=hid (fun he:at8 (tl a) k=at8 (tl b) k=>take_same (a:=tl a) (b:=tl b) (by rw [aI];exact l1) (by rw [aI];exact l2) HT.o he);have HD:=hid (fun he:at8 (tl a) k≠at8 (tl b) k=>Hz (tl a) (tl b) k (by rw [aI];exact l1) (by rw [aI];exact l2) HT.o he);generalize at8 (tl a) k=x at i1 HS HD;generalize at8 (tl b) k=y at i2 HS HD;have b1:=cJ x;have b2:=cJ y;have b3:=gH x;have b4:=gH y;have bx:x=47↔b8 x=47:=⟨fun h=>by rw [h];rfl,fun h=>kO h⟩;have by':y=47↔b8 y=47:=⟨fun h=>by rw [h];rfl,fun h=>kO h⟩
  have rx:rk x=if b8 x=47 then 0 else (b8 x).toNat+1:=by simp only [rk,bx];rfl
  have ry:rk y=if b8 y=47 then 0 else (b8 y).toNat+1:=by simp only [rk,by'];rfl
  by_cases FI:x=y
  .
   subst FI;have q1:(b8 x == b8 x)=true:=by simp
   have C6:=hid (HS.o rfl);clear HD bx by' rx ry HS
   go_wp2;go_quiet (fail)
   go_wp2;go_roundw
   case rel=>exact ⟨k+1,by omega,by omega,by go_num,rfl,C6.o,HB.o.elim fun n hn=>⟨n+_,by rw [hn];exact bC _ _ _⟩⟩
   case measure=>simp [intOf];omega
  have q1:(b8 x == b8 y)=false:=by
   simp only [beq_eq_false_iff_ne,ne_eq];exact fun h=>FI (kO h)
  have HF:=hid (HD.o FI);have HN:Hid (b8 x≠b8 y):=fun h=>FI (kO h)
  have HX:=hid rx;have HY:=hid ry;clear HD HS FI rx ry bx by'
  by_cases c1:b8 x=47
  .
   have q2:(b8 x == 47)=true:=by simp [c1]
   have hv:cmpL (tl a) (tl b) = -1:=by
    rw [HF.o,if_pos];rw [HX.o,HY.o,if_pos c1];have:=HN.o;split<;>omega
   have HV:=hid hv;clear c1 hv;go_wp2;go_quiet (fail)
   go_wp2;rw [Exit.noGoto_ret];go_ret;exact ⟨eW HV.o.symm,HB.o.elim fun n hn=>⟨n+_,by rw [hn];exact bC _ _ _⟩⟩
  have q2:(b8 x == 47)=false:=by simp [c1]
  by_cases c2:b8 y=47
  .
   have q3:(b8 y == 47)=true:=by simp [c2]
   have q3':(b8 y != 47)=false:=by simp [c2]
   have hv:cmpL (tl a) (tl b)=1:=by
     rw [HF.o,if_neg];rw [HX.o,HY.o,if_pos c2,if_neg c1];omega
   have HV:=hid hv;clear c1 c2 hv;go_wp2;go_quiet (fail)
   go_wp2;rw [Exit.noGoto_ret];go_ret;exact ⟨eW HV.o.symm,HB.o.elim fun n hn=>⟨n+_,by rw [hn];exact bC _ _ _⟩⟩
  have q3:(b8 y == 47)=false:=by simp [c2]
  have q3':(b8 y != 47)=true:=by simp [c2]
  by_cases c3:b8 x < b8 y
  .
   have q4:decide (b8 x < b8 y)=true:=by simp [c3]
   have hv:cmpL (tl a) (tl b) = -1:=by
    rw [HF.o,if_pos];rw [HX.o,HY.o,if_neg c2,if_neg c1];omega
   have HV:=hid hv;clear c1 c2 hv;go_wp2;go_quiet (fail)
   go_wp2;rw [Exit.noGoto_ret];go_ret;exact ⟨eW HV.o.symm,HB.o.elim fun n hn=>⟨n+_,by rw [hn];exact bC _ _ _⟩⟩
  have q4:decide (b8 x < b8 y)=false:=by simp [c3]
  have hv:cmpL (tl a) (tl b)=1:=by
   rw [HF.o,if_neg];rw [HX.o,HY.o,if_neg c2,if_neg c1];omega
  have HV:=hid hv;clear c1 c2 hv;go_wp2;go_quiet (fail)
  go_wp2;rw [Exit.noGoto_ret];go_ret;exact ⟨eW HV.o.symm,HB.o.elim fun n hn=>⟨n+_,by rw [hn];exact bC _ _ _⟩⟩
 have HK:Hid (k=min a.size b.size):=by show _=_;omega
 go_wp2;try rw [Exit.noGoto_ret]
 go_ret;refine ⟨eW ?_,HB.o⟩;rw [Va (tl a) (tl b) k (by rw [aI,aI];exact HK.o) HT.o,aI,aI]
def cutS:List UInt8->List UInt8 × List UInt8 × Bool
 | []=>([],[],false)
 | c :: l=>if c=47 then ([],l,true) else (c :: (cutS l).1,(cutS l).2.1,(cutS l).2.2)
def Yo (l:List UInt8):Lib.cut l [47]=cutS l:=by
 induction l with
 | nil=>rfl
 | cons c l ih =>
  have R8:=Lib.index_ge l [47];unfold Lib.cut Lib.index cutS;by_cases hc:c=47
  . subst hc;rfl
  have h1:[47].isPrefixOf (c :: l)=false:=by simp [List.isPrefixOf,Ne.symm hc]
  rw [if_neg (show ¬[47].isPrefixOf (c :: l)=true by rw [h1];decide),if_neg hc,<-ih];unfold Lib.cut;by_cases hi:Lib.index l [47] = -1
  . rw [hi];rfl
  have h0:(0:Int)<=Lib.index l [47]:=by omega
  have h2:¬(Lib.index l [47] == -1)=true:=by simpa using hi
  rw [if_neg h2,if_pos h0,if_pos (show (0:Int)<=Lib.index l [47]+1 by omega)];obtain ⟨n,hn⟩:=Int.eq_ofNat_of_zero_le h0;rw [hn];have e:((n:Int)+1).toNat=n+1:=by omega
  simp only [e,Int.toNat_natCast,List.take_succ_cons,List.length_singleton];rw [show n+1+1=(n+1)+1 from rfl,List.drop_succ_cons]
def pieces:List UInt8->List (List UInt8)
 | []=>[[]]
 | c :: l=>if c=47 then [] :: pieces l else match pieces l with | p :: ps=>(c :: p) :: ps | []=>[[c]]
def mK (l:List UInt8):pieces l=if (cutS l).2.2 then (cutS l).1 :: pieces (cutS l).2.1 else [(cutS l).1]:=by
 induction l with
 | nil=>rfl
 | cons c l ih =>
  rw [pieces,cutS];by_cases hc:c=47
  . rw [if_pos hc,if_pos hc,if_pos rfl]
  rw [if_neg hc,if_neg hc,ih]
  cases h:(cutS l).2.2
  . rfl
  rfl
def nJ (l:List UInt8):(cutS l).2.1.length<=l.length/\(cutS l).1.length<=l.length/\((cutS l).2.2=true->(cutS l).2.1.length < l.length):=by
 induction l with
 | nil=>simp [cutS]
 | cons c l ih =>
  unfold cutS;by_cases hc:c=47
  . simp [hc]
  rw [if_neg hc];simp only [List.length_cons];refine ⟨by omega,by omega,fun h=>by have:=ih.2.2 h;omega⟩
def cB (l:List UInt8):pieces l≠[]:=by
 rw [mK];split<;>simp
def aZ (l:List UInt8):List UInt8:=(pieces l).getLast (cB l)
def okB (c:UInt8):Bool:=!decide (b8 c < 32)&&!(b8 c == 127)&&!(b8 c == 47)
def iA (l:List UInt8):Bool:=!decide (l=[])&&decide (l.length<=48)&&!decide (l=[46])&&!decide (l=[46,46])
def nameB (l:List UInt8):Bool:=iA l&&l.all okB
def eachF:List (List UInt8)->Nat->List UInt8->Bool × Nat × List UInt8
 | [],n,b=>(true,n,b)
 | p :: ps,n,_=>if decide (n+1<=6)&&nameB p then eachF ps (n+1) p else (false,n+1,p)
def jS (l:List UInt8):Bool:=decide ((pieces l).length<=6)&&(pieces l).all nameB
def aheadL (l:List UInt8):List UInt8:=l.take (l.length - (aZ l).length - 1)
def mayB (l:List UInt8):Bool:=decide (l.length<=160)&&jS l&&decide ((aheadL l).length<=111)
def kZ (l:List UInt8):List UInt8 × List UInt8:=if mayB l then (aheadL l,aZ l) else ([],[])
def Jh (ps:List (List UInt8)):∀n b,(eachF ps n b).1=(decide (ps=[]∨ps.length+n<=6)&&ps.all nameB):=by
 induction ps with
 | nil=>intro n b;rfl
 | cons p ps ih =>
  intro n b;unfold eachF;by_cases h1:n+1<=6<;>cases h2:nameB p
  . simp [h2]
  .
   simp only [h1,decide_true,Bool.and_true,if_pos];rw [ih];have e:decide (ps=[]∨ps.length+(n+1)<=6)=decide (p :: ps=[]∨(p :: ps).length+n<=6):=by
    rw [decide_eq_decide];simp only [List.length_cons,reduceCtorEq,false_or];constructor
    . rintro (rfl | h)
      . simp;omega
      omega
    intro h;right;omega
   rw [e];simp [h2]
  . simp [h2]
  simp [h1];intro h;omega
def Ki (ps:List (List UInt8)) (h:ps≠[]):∀n b,(eachF ps n b).1=true->(eachF ps n b).2.2=ps.getLast h:=by
 induction ps with
 | nil=>exact absurd rfl h
 | cons p ps ih =>
  intro n b hg;unfold eachF at hg ⊢;split at hg
  . rename_i hc
    rw [if_pos hc];by_cases hp:ps=[]
    . subst hp;rfl
    rw [ih hp _ _ hg,List.getLast_cons hp]
  cases hg
def rC (l:List UInt8):(eachF (pieces l) 0 []).1=jS l:=by
 rw [Jh];unfold jS;congr 1;rw [decide_eq_decide];simp [cB]
def Km (l:List UInt8) (h:jS l=true):(eachF (pieces l) 0 []).2.2=aZ l:=Ki _ (cB l) 0 [] (by rw [rC,h])
def Ww {l:List UInt8} (h:nameB l=true):l≠[]:=by
 rintro rfl;simp [nameB,iA] at h
def Ao {l:List UInt8} (h:mayB l=true):jS l=true:=by
 unfold mayB at h;simp only [Bool.and_eq_true] at h;exact h.1.2
def Eu {l:List UInt8} (h:jS l=true):∀p∈pieces l,nameB p=true:=by
 unfold jS at h;simp only [Bool.and_eq_true,List.all_eq_true] at h;exact h.2
def sG (l:List UInt8):aZ l∈pieces l:=List.getLast_mem _
def Ou {l:List UInt8} (h:mayB l=true):aZ l≠[]:=Ww (Eu (Ao h) _ (sG l))
def aP (s:ByteArray):s.toList=tl s:=ByteArray.toList_eq s
def Nr (l:List UInt8) (k:Nat) (h:k < l.length) (ha:(l.take k).all okB=true) (hk:okB (at8 l k)=true):(l.take (k+1)).all okB=true:=by
 have e:at8 l k=l[k]:=by simp [at8,List.getD,List.getElem?_eq_getElem h]
 rw [e] at hk;rw [List.take_succ_eq_append_getElem h,List.all_append,ha];simp [hk]
def Nu (l:List UInt8) (k:Nat) (h:k < l.length) (hk:okB (at8 l k)=false):nameB l=false:=by
 have e:at8 l k=l[k]:=by simp [at8,List.getD,List.getElem?_eq_getElem h]
 rw [e] at hk;have:l.all okB=false:=by rw [List.all_eq_false];exact ⟨_,List.getElem_mem h,by simp [hk]⟩
 simp [nameB,this]
def aF {a b:Bool} (h:a=b):Ending.returned (.bool a)=.returned (.bool b):=by rw [h]
def Tw (s:ByteArray) (w:World) (hs:s.size<=140737488355328) :
 qC 123 #[.string s] w fun e w'=>e=.returned (.bool (nameB (tl s)))/\w=w':=by
 have hc:Hid (s.toList=tl s):=aP s;have hz:Hid (s.size=(tl s).length):=(aI s).symm;have mz:(s.toList=[])∨(s.toList≠[]/\48 < s.size)∨(s.toList≠[]/\s.size<=48/\s.toList=[46])∨(s.toList≠[]/\s.size<=48/\s.toList≠[46]/\s.toList=[46,46])∨(s.toList≠[]/\s.size<=48/\s.toList≠[46]/\s.toList≠[46,46]):=by
  by_cases h1:s.toList=[]
  . exact .inl h1
  by_cases h2:s.size<=48
  . by_cases h3:s.toList=[46]
    . exact .inr (.inr (.inl ⟨h1,h2,h3⟩))
    by_cases h4:s.toList=[46,46]
    . exact .inr (.inr (.inr (.inl ⟨h1,h2,h3,h4⟩)))
    exact .inr (.inr (.inr (.inr ⟨h1,h2,h3,h4⟩)))
  exact .inr (.inl ⟨h1,by omega⟩)
 rcases mz with h1 | ⟨h1,h2⟩ | ⟨h1,h2,h3⟩ | ⟨h1,h2,h3,h4⟩ | ⟨h1,h2,h3,h4⟩
 .
  have hn:Hid (nameB (tl s)=false):=by show _=_;simp [nameB,iA,<-hc.o,h1]
  go_enter Tryz.func123,Tryz.ntmps123
  go_wp2;go_step3
  go_wp2;go_step3
  go_wp2;go_loopw [3,23] (fun v i wr=>∃k:Nat,k<=s.size/\i=.int .i64 (k:Int)/\v=.bool false/\w=wr)
   (fun _ i _=>s.size - (intOf i).toNat)
  case atStart=>exact ⟨0,by omega,rfl,rfl,rfl⟩
  obtain ⟨k,hk,rfl,rfl,rfl⟩:=hrel;by_cases d8:k < s.size
  .
   have i1:=aX s k d8;generalize at8 (tl s) k=x at i1;have b1:=cJ x;have b2:=gH x;by_cases c1:b8 x < 32
   .
    have HO:Hid (okB x=false):=by show _=_;simp [okB,c1]
    have t1:decide (b8 x < 32)=true:=by simp [c1]
    clear c1;go_wp2;rw [Exit.noGoto_ret];go_ret;exact ⟨aF hn.o.symm,rfl⟩
   have t1:decide (b8 x < 32)=false:=by simp [c1]
   by_cases c2:b8 x=127
   .
    have HO:Hid (okB x=false):=by show _=_;simp [okB,c2]
    have t2:(b8 x == 127)=true:=by simp [c2]
    clear c1 c2;go_wp2;rw [Exit.noGoto_ret];go_ret;exact ⟨aF hn.o.symm,rfl⟩
   have t2:(b8 x == 127)=false:=by simp [c2]
   by_cases c3:b8 x=47
   .
    have HO:Hid (okB x=false):=by show _=_;simp [okB,c3]
    have t3:(b8 x == 47)=true:=by simp [c3]
    clear c1 c2 c3;go_wp2;rw [Exit.noGoto_ret];go_ret;exact ⟨aF hn.o.symm,rfl⟩
   have t3:(b8 x == 47)=false:=by simp [c3]
   have HO:Hid (okB x=true):=by show _=_;simp [okB,c1,c2,c3]
   clear c1 c2 c3;go_wp2;go_roundw
   case rel=>exact ⟨k+1,by omega,by go_num,rfl,trivial⟩
   case measure=>simp [intOf];omega
  have HK:Hid (k=s.size):=by show _=_;omega
  go_wp2;try rw [Exit.noGoto_ret]
  go_ret;exact ⟨aF hn.o.symm,rfl⟩
 .
  have g1:(!s.toList.isEmpty)=true:=by simp [h1]
  have g2:¬((s.size:Int)<=48):=by omega
  have hn:Hid (nameB (tl s)=false):=by show _=_;simp [nameB,iA,<-hz.o];omega
  clear h1 h2;go_enter Tryz.func123,Tryz.ntmps123
  go_wp2;go_step3
  go_wp2;go_step3
  go_wp2;go_loopw [3,23] (fun v i wr=>∃k:Nat,k<=s.size/\i=.int .i64 (k:Int)/\v=.bool false/\w=wr)
   (fun _ i _=>s.size - (intOf i).toNat)
  case atStart=>exact ⟨0,by omega,rfl,rfl,rfl⟩
  obtain ⟨k,hk,rfl,rfl,rfl⟩:=hrel;by_cases d8:k < s.size
  .
   have i1:=aX s k d8;generalize at8 (tl s) k=x at i1;have b1:=cJ x;have b2:=gH x;by_cases c1:b8 x < 32
   .
    have HO:Hid (okB x=false):=by show _=_;simp [okB,c1]
    have t1:decide (b8 x < 32)=true:=by simp [c1]
    clear c1;go_wp2;rw [Exit.noGoto_ret];go_ret;exact ⟨aF hn.o.symm,rfl⟩
   have t1:decide (b8 x < 32)=false:=by simp [c1]
   by_cases c2:b8 x=127
   .
    have HO:Hid (okB x=false):=by show _=_;simp [okB,c2]
    have t2:(b8 x == 127)=true:=by simp [c2]
    clear c1 c2;go_wp2;rw [Exit.noGoto_ret];go_ret;exact ⟨aF hn.o.symm,rfl⟩
   have t2:(b8 x == 127)=false:=by simp [c2]
   by_cases c3:b8 x=47
   .
    have HO:Hid (okB x=false):=by show _=_;simp [okB,c3]
    have t3:(b8 x == 47)=true:=by simp [c3]
    clear c1 c2 c3;go_wp2;rw [Exit.noGoto_ret];go_ret;exact ⟨aF hn.o.symm,rfl⟩
   have t3:(b8 x == 47)=false:=by simp [c3]
   have HO:Hid (okB x=true):=by show _=_;simp [okB,c1,c2,c3]
   clear c1 c2 c3;go_wp2;go_roundw
   case rel=>exact ⟨k+1,by omega,by go_num,rfl,trivial⟩
   case measure=>simp [intOf];omega
  have HK:Hid (k=s.size):=by show _=_;omega
  go_wp2;try rw [Exit.noGoto_ret]
  go_ret;exact ⟨aF hn.o.symm,rfl⟩
 .
  have g1:(!s.toList.isEmpty)=true:=by simp [h1]
  have g2:((s.size:Int)<=48):=by omega
  have g3:(!s.toList == [46])=false:=by simp [h3]
  have hn:Hid (nameB (tl s)=false):=by show _=_;simp [nameB,iA,<-hc.o,h3]
  clear h1 h2 h3;go_enter Tryz.func123,Tryz.ntmps123
  go_wp2;go_step3
  go_wp2;go_step3
  go_wp2;go_loopw [3,23] (fun v i wr=>∃k:Nat,k<=s.size/\i=.int .i64 (k:Int)/\v=.bool false/\w=wr)
   (fun _ i _=>s.size - (intOf i).toNat)
  case atStart=>exact ⟨0,by omega,rfl,rfl,rfl⟩
  obtain ⟨k,hk,rfl,rfl,rfl⟩:=hrel;by_cases d8:k < s.size
  .
   have i1:=aX s k d8;generalize at8 (tl s) k=x at i1;have b1:=cJ x;have b2:=gH x;by_cases c1:b8 x < 32
   .
    have HO:Hid (okB x=false):=by show _=_;simp [okB,c1]
    have t1:decide (b8 x < 32)=true:=by simp [c1]
    clear c1;go_wp2;rw [Exit.noGoto_ret];go_ret;exact ⟨aF hn.o.symm,rfl⟩
   have t1:decide (b8 x < 32)=false:=by simp [c1]
   by_cases c2:b8 x=127
   .
    have HO:Hid (okB x=false):=by show _=_;simp [okB,c2]
    have t2:(b8 x == 127)=true:=by simp [c2]
    clear c1 c2;go_wp2;rw [Exit.noGoto_ret];go_ret;exact ⟨aF hn.o.symm,rfl⟩
   have t2:(b8 x == 127)=false:=by simp [c2]
   by_cases c3:b8 x=47
   .
    have HO:Hid (okB x=false):=by show _=_;simp [okB,c3]
    have t3:(b8 x == 47)=true:=by simp [c3]
    clear c1 c2 c3;go_wp2;rw [Exit.noGoto_ret];go_ret;exact ⟨aF hn.o.symm,rfl⟩
   have t3:(b8 x == 47)=false:=by simp [c3]
   have HO:Hid (okB x=true):=by show _=_;simp [okB,c1,c2,c3]
   clear c1 c2 c3;go_wp2;go_roundw
   case rel=>exact ⟨k+1,by omega,by go_num,rfl,trivial⟩
   case measure=>simp [intOf];omega
  have HK:Hid (k=s.size):=by show _=_;omega
  go_wp2;try rw [Exit.noGoto_ret]
  go_ret;exact ⟨aF hn.o.symm,rfl⟩
 .
  have g1:(!s.toList.isEmpty)=true:=by simp [h1]
  have g2:((s.size:Int)<=48):=by omega
  have g3:(!s.toList == [46])=true:=by simp [h3]
  have g4:(!s.toList == [46,46])=false:=by simp [h4]
  have hn:Hid (nameB (tl s)=false):=by show _=_;simp [nameB,iA,<-hc.o,h4]
  clear h1 h2 h3 h4;go_enter Tryz.func123,Tryz.ntmps123
  go_wp2;go_step3
  go_wp2;go_step3
  go_wp2;go_loopw [3,23] (fun v i wr=>∃k:Nat,k<=s.size/\i=.int .i64 (k:Int)/\v=.bool false/\w=wr)
   (fun _ i _=>s.size - (intOf i).toNat)
  case atStart=>exact ⟨0,by omega,rfl,rfl,rfl⟩
  obtain ⟨k,hk,rfl,rfl,rfl⟩:=hrel;by_cases d8:k < s.size
  .
   have i1:=aX s k d8;generalize at8 (tl s) k=x at i1;have b1:=cJ x;have b2:=gH x;by_cases c1:b8 x < 32
   .
    have HO:Hid (okB x=false):=by show _=_;simp [okB,c1]
    have t1:decide (b8 x < 32)=true:=by simp [c1]
    clear c1;go_wp2;rw [Exit.noGoto_ret];go_ret;exact ⟨aF hn.o.symm,rfl⟩
   have t1:decide (b8 x < 32)=false:=by simp [c1]
   by_cases c2:b8 x=127
   .
    have HO:Hid (okB x=false):=by show _=_;simp [okB,c2]
    have t2:(b8 x == 127)=true:=by simp [c2]
    clear c1 c2;go_wp2;rw [Exit.noGoto_ret];go_ret;exact ⟨aF hn.o.symm,rfl⟩
   have t2:(b8 x == 127)=false:=by simp [c2]
   by_cases c3:b8 x=47
   .
    have HO:Hid (okB x=false):=by show _=_;simp [okB,c3]
    have t3:(b8 x == 47)=true:=by simp [c3]
    clear c1 c2 c3;go_wp2;rw [Exit.noGoto_ret];go_ret;exact ⟨aF hn.o.symm,rfl⟩
   have t3:(b8 x == 47)=false:=by simp [c3]
   have HO:Hid (okB x=true):=by show _=_;simp [okB,c1,c2,c3]
   clear c1 c2 c3;go_wp2;go_roundw
   case rel=>exact ⟨k+1,by omega,by go_num,rfl,trivial⟩
   case measure=>simp [intOf];omega
  have HK:Hid (k=s.size):=by show _=_;omega
  go_wp2;try rw [Exit.noGoto_ret]
  go_ret;exact ⟨aF hn.o.symm,rfl⟩
 have g1:(!s.toList.isEmpty)=true:=by simp [h1]
 have g2:((s.size:Int)<=48):=by omega
 have g3:(!s.toList == [46])=true:=by simp [h3]
 have g4:(!s.toList == [46,46])=true:=by simp [h4]
 have hn:Hid (iA (tl s)=true):=by show _=_;simp [iA,<-hc.o,h1,h3,h4];rw [hc.o,<-hz.o];exact h2
 clear h1 h2 h3 h4;go_enter Tryz.func123,Tryz.ntmps123
 go_wp2;go_step3
 go_wp2;go_step3
 go_wp2;go_loopw [3,23] (fun v i wr=>∃k:Nat,k<=s.size/\i=.int .i64 (k:Int)/\v=.bool true/\Hid (((tl s).take k).all okB=true)/\w=wr)
  (fun _ i _=>s.size - (intOf i).toNat)
 case atStart=>exact ⟨0,by omega,rfl,rfl,rfl,rfl⟩
 obtain ⟨k,hk,rfl,rfl,HA,rfl⟩:=hrel;by_cases d8:k < s.size
 .
  have i1:=aX s k d8;have HY:=hid (Nr (tl s) k (by rw [aI];exact d8) HA.o);have HN:=hid (Nu (tl s) k (by rw [aI];exact d8));generalize at8 (tl s) k=x at i1 HY HN;have b1:=cJ x;have b2:=gH x;by_cases c1:b8 x < 32
  .
   have HO:Hid (okB x=false):=by show _=_;simp [okB,c1]
   have t1:decide (b8 x < 32)=true:=by simp [c1]
   clear c1;go_wp2;rw [Exit.noGoto_ret];go_ret;exact ⟨aF (HN.o HO.o).symm,rfl⟩
  have t1:decide (b8 x < 32)=false:=by simp [c1]
  by_cases c2:b8 x=127
  .
   have HO:Hid (okB x=false):=by show _=_;simp [okB,c2]
   have t2:(b8 x == 127)=true:=by simp [c2]
   clear c1 c2;go_wp2;rw [Exit.noGoto_ret];go_ret;exact ⟨aF (HN.o HO.o).symm,rfl⟩
  have t2:(b8 x == 127)=false:=by simp [c2]
  by_cases c3:b8 x=47
  .
   have HO:Hid (okB x=false):=by show _=_;simp [okB,c3]
   have t3:(b8 x == 47)=true:=by simp [c3]
   clear c1 c2 c3;go_wp2;rw [Exit.noGoto_ret];go_ret;exact ⟨aF (HN.o HO.o).symm,rfl⟩
  have t3:(b8 x == 47)=false:=by simp [c3]
  have HO:Hid (okB x=true):=by show _=_;simp [okB,c1,c2,c3]
  clear c1 c2 c3;go_wp2;go_roundw
  case rel=>exact ⟨k+1,by omega,by go_num,rfl,HY.o HO.o,trivial⟩
  case measure=>simp [intOf];omega
 have HK:Hid (k=s.size):=by show _=_;omega
 go_wp2;try rw [Exit.noGoto_ret]
 go_ret;refine ⟨aF ?_,rfl⟩;have ha:=HA.o;rw [List.take_of_length_le (by rw [aI,HK.o];exact Nat.le_refl _)] at ha;simp [nameB,hn.o,ha]
def Gd (w:World):Prop:=w.ShapedOpen Tryz.prog/\Tryz.prog.low<=w.heap.size
def Gd.pos {w:World} (h:Gd w):0 < w.heap.size:=Nat.lt_of_lt_of_le (of_decide_eq_true (by kernel_rfl:decide (0 < Tryz.prog.low)=true)) h.2
def Gd.kept {w w':World} (h:Gd w) (hb:qW w w'):Gd w':=by
 refine ⟨h.1.keptBut (hb.frame (fun p=>w.heap.size<=p.block)) (fun p hp=>Nat.le_trans h.2 hp),Nat.le_trans h.2 hb.size⟩
def ba (l:List UInt8):ByteArray:=⟨l.toArray⟩
def aQ (l:List UInt8):tl (ba l)=l:=rfl
def pW (s:ByteArray):ba (tl s)=s:=by simp [ba,tl]
def aD (l:List UInt8):(ba l).size=l.length:=by rw [<-aI];rfl
def iW (s:ByteArray) (p q:List UInt8) (m:Bool) (h:Hid (cutS (tl s)=(p,q,m))) (w:World) (hG:Gd w) (hs:s.size < 4294967281) :
 qC 90 #[.string s,.string ⟨#[47]⟩] w fun e w'=>e=.returned (.tuple #[.string (ba p),.string (ba q),.bool m])/\∃n,w'=w.drewN n:=by
 refine (Tryz.strings_Cut_shaped s ⟨#[47]⟩ w hG.1 hs).mono fun e w' ⟨h1,h2⟩=>⟨?_,h2⟩
 have e2:Lib.cut (tl s) [47]=(p,q,m):=(Yo _).trans h.o;rw [h1];show Ending.returned (.tuple #[.string (ba (Lib.cut (tl s) [47]).1),.string (ba (Lib.cut (tl s) [47]).2.1),.bool (Lib.cut (tl s) [47]).2.2])=_
 rw [e2]
def Has (w:World) (g:Nat) (t:TypeId) (cs:Array Value):Prop:=w.heap[g]? = some (.cells cs t (0,0))
section
variable {w w':World} {g:Nat} {t:TypeId} {cs:Array Value}
theorem Has.inside (h:Has w g t cs):g < w.heap.size:=by
 unfold Has at h;exact (Array.getElem?_eq_some_iff.1 h).1
theorem Has.at_ (h:Has w g t cs) (i:Nat):w.cell? ⟨g,i,none⟩=cs[i]?:=cell_of_row w g i cs t (0,0) h
theorem Has.free (h:Has w g t cs) (i:Nat):w.frozen? ⟨g,i,none⟩=false:=by
 unfold Has at h;simp [World.frozen?,h]
theorem Has.fresh (w:World) (t:TypeId) (cs:Array Value):Has (w.alloc (.cells cs t)) w.heap.size t cs:=heap_alloc_new w _
theorem Has.fresh' (w:World) (t:TypeId) (cs:Array Value) {g:Nat} (hg:g=w.heap.size):Has (w.alloc (.cells cs t)) g t cs:=by subst hg;exact Has.fresh w t cs
theorem Has.drawn (h:Has w g t cs) (n:Nat):Has (w.drewN n) g t cs:=h
theorem Has.more (h:Has w g t cs) (o:Obj):Has (w.alloc o) g t cs:=(Below.heap_alloc w o g h.inside).trans h
theorem Has.put (h:Has w g t cs) (i:Nat) (v:Value):Has (w.setCell ⟨g,i,none⟩ v) g t (cs.setIfInBounds i v):=by
 unfold Has at h ⊢;simp [World.setCell,Array.getElem?_modify,h]
theorem Has.other (h:Has w g t cs) {p:Addr} (hp:g≠p.block) (v:Value):Has (w.setCell p v) g t cs:=(Below.heap_setCell w p v g hp).trans h
theorem Has.kept {B:Nat} (h:Has w g t cs) (hb:Below B w w') (hg:g < B):Has w' g t cs:=(hb.block g hg).trans h
end
def Has.row {w:World} {g:Nat} {t:TypeId} {cs cs':Array Value} (h:Has w g t cs):Has (w.setRow g cs') g t cs':=setRow_heap w g cs cs' t (0,0) h
def Has.rowOther {w:World} {g g':Nat} {t:TypeId} {cs cs':Array Value} (h:Has w g t cs) (hg:g≠g'):Has (w.setRow g' cs') g t cs:=(setRow_other w g' g cs' hg).trans h
def FC (b n:Nat) (s:ByteArray) (k:Nat) (w w':World):Prop:=w'=(w.setCell ⟨b,0,none⟩ (.string s)).setCell ⟨n,0,none⟩ (.int .i64 ((k+1:Nat):Int))
def Sr (s:ByteArray) (b n:Nat) (v:Value) (k:Nat) (w:World) (hs:s.size<=140737488355328) (hk:k<=6) (hb:Has w b 9 #[v]) (hn:Has w n 3 #[.int .i64 (k:Int)]) (j3:b≠n) :
 qC 122 #[.string s,.pointer (some ⟨b,0,none⟩),.pointer (some ⟨n,0,none⟩)] w fun e w'=>e=.returned (.bool (decide (k+1<=6)&&nameB (tl s)))/\FC b n s k w w':=by
 have c1:w.cell? ⟨b,0,none⟩=some v:=hb.at_ 0;have c2:w.cell? ⟨n,0,none⟩=some (.int .i64 (k:Int)):=hn.at_ 0;have f1:=hb.free 0;have f2:=hn.free 0;have c3:(w.setCell ⟨b,0,none⟩ (.string s)).cell? ⟨n,0,none⟩=some (.int .i64 (k:Int)):=(Has.other hn j3.symm _).at_ 0;have f3:=(Has.other hn (p:=⟨b,0,none⟩) j3.symm (.string s)).free 0;clear hb hn;by_cases h6:k+1<=6
 .
  have g1:(k:Int)+1<=6:=by omega
  have H6:=hid h6;clear h6 hk;go_enter Tryz.func122,Tryz.ntmps122
  go_wp2_with (go_at_call 123;refine (Tw _ _ hs).mono ?_;rintro e1 w1 ⟨rfl,rfl⟩)
  go_ret;refine ⟨aF (by simp [H6.o]),?_⟩;unfold FC;rfl
 have g1:¬((k:Int)+1<=6):=by omega
 have H6:=hid h6;clear h6;go_enter Tryz.func122,Tryz.ntmps122
 go_wp2;go_ret;refine ⟨aF (by have h:=H6.o;rw [decide_eq_false (show ¬k<=5 by omega)];rfl),?_⟩;unfold FC;rfl
def FC.post {b n k:Nat} {s:ByteArray} {v:Value} {w0 w w':World} (h:FC b n s k w w') (hb:Has w b 9 #[v]) (hn:Has w n 3 #[.int .i64 (k:Int)]) (j3:b≠n) (hB:qW w0 w) (h1:w0.heap.size<=b) (h2:w0.heap.size<=n) :
 Has w' b 9 #[.string s]/\Has w' n 3 #[.int .i64 ((k+1:Nat):Int)]/\qW w0 w':=by
 unfold FC at h;subst h;exact ⟨((hb.put 0 _).other (p:=⟨n,0,none⟩) j3 _),((hn.other (p:=⟨b,0,none⟩) j3.symm _).put 0 _),(hB.setCell h1 _).setCell h2 _⟩
def EC (w0:World) (b n:Nat) (r:Bool × Nat × List UInt8) (e:Ending) (w':World):Prop :=
 e=.returned (.bool r.1)/\Has w' b 9 #[.string (ba r.2.2)]/\Has w' n 3 #[.int .i64 (r.2.1:Int)]/\qW w0 w'
def Ts (s:ByteArray) (b n:Nat) (v:List UInt8) (k:Nat) (w0 w:World) (hG:Gd w0) (hs:s.size<=4000) (hk:k<=6) (hb:Has w b 9 #[.string (ba v)]) (hn:Has w n 3 #[.int .i64 (k:Int)]) (j3:b≠n)
 (hB:qW w0 w) (h1:w0.heap.size<=b) (h2:w0.heap.size<=n) :
 qC 121 #[.string s,.func (.func 122) #[] #[.pointer (some ⟨b,0,none⟩),.pointer (some ⟨n,0,none⟩)]] w fun e w'=>EC w0 b n (eachF (pieces (tl s)) k v) e w':=by
 have HG:=hid hG;have HB:=hid hB;have Hb:=hid hb;have Hn:=hid hn;have UG:=hid j3;have H1:=hid h1;have H2:=hid h2;clear hG hB hb hn j3 h1 h2;go_enter Tryz.func121,Tryz.ntmps121
 go_wp2;go_loopw [0,5] (fun t m wr=>∃(r:ByteArray) (g:Bool) (j:Nat) (u:List UInt8),t=.string r/\m=.bool g/\r.size<=4000/\j<=6/\Hid (eachF (pieces (tl s)) k v=if g then eachF (pieces (tl r)) j u else (true,j,u))
  /\ Hid (Has wr b 9 #[.string (ba u)])/\Hid (Has wr n 3 #[.int .i64 (j:Int)])/\Hid (qW w0 wr))
  (fun t m _=>match t,m with | .string r,.bool true=>r.size+1 | _,_=>0)
 case atStart=>exact ⟨s,true,k,v,rfl,rfl,hs,hk,rfl,Hb,Hn,HB⟩
 obtain ⟨r,g,j,u,rfl,rfl,hr,hj,HE,J1,J2,J3⟩:=hrel
 cases g with
 | false =>
  go_wp2;go_ret;unfold EC;rw [HE.o];exact ⟨rfl,J1.o,J2.o,J3.o⟩
 | true =>
  obtain ⟨p,q,m,HC⟩:∃p q m,Hid (cutS (tl r)=(p,q,m)):=⟨_,_,_,rfl⟩;have hp:p.length<=4000:=by have:=(nJ (tl r)).2.1;rw [HC.o,aI] at this;simp only at this;omega
  have hq:q.length<=4000:=by have:=(nJ (tl r)).1;rw [HC.o,aI] at this;simp only at this;omega
  have HQ:Hid (m=true->q.length < r.size):=by intro hm;have:=(nJ (tl r)).2.2;rw [HC.o,aI] at this;exact this hm
  have HP:Hid (eachF (pieces (tl r)) j u=if decide (j+1<=6)&&nameB p then (if m then eachF (pieces q) (j+1) p else (true,j+1,p)) else (false,j+1,p)):=by
   show _=_
   rw [mK,HC.o]
   cases m<;>rfl
  obtain ⟨c,HV⟩:=qX ((decide (j+1<=6)&&nameB p));have za:(ba p).size<=140737488355328:=by rw [aD];omega
  have HF:Hid (∀(W:World),Has W b 9 #[.string (ba u)]->Has W n 3 #[.int .i64 (j:Int)]->qC 122 #[.string (ba p),.pointer (some ⟨b,0,none⟩),.pointer (some ⟨n,0,none⟩)] W fun e w'=>e=.returned (.bool c)/\FC b n (ba p) j W w'):=by
   intro W h1 h2;have:=Sr (ba p) b n _ j W za hj h1 h2 UG.o;rw [aQ,HV.o] at this;exact this
  cases c with
  | false =>
   go_wp2_with (first
    | (go_at_call 90;refine (iW r p q m HC wr (HG.o.kept J3.o) (by omega)).mono ?_;rintro e1 w1 ⟨rfl,nd,rfl⟩)
    | (go_at_call 122;refine (HF.o _ (J1.o.drawn nd) (J2.o.drawn nd)).mono ?_;rintro e2 w2 ⟨rfl,FJ⟩;have UH:=hid FJ;clear FJ))
   go_ret;obtain ⟨F1,F2,F3⟩:=UH.o.post (J1.o.drawn nd) (J2.o.drawn nd) UG.o (J3.o.drewN' nd) H1.o H2.o;unfold EC;rw [HE.o,if_pos trivial,HP.o,HV.o,if_neg (by decide)];exact ⟨rfl,F1,F2,F3⟩
  | true =>
   go_wp2_with (first
    | (go_at_call 90;refine (iW r p q m HC wr (HG.o.kept J3.o) (by omega)).mono ?_;rintro e1 w1 ⟨rfl,nd,rfl⟩)
    | (go_at_call 122;refine (HF.o _ (J1.o.drawn nd) (J2.o.drawn nd)).mono ?_;rintro e2 w2 ⟨rfl,FJ⟩;have UH:=hid FJ;clear FJ))
   have HJ:Hid (j+1<=6):=by
    have:=HV.o;simp only [Bool.and_eq_true,decide_eq_true_eq] at this;exact this.1
   go_roundw
   case rel =>
    obtain ⟨F1,F2,F3⟩:=UH.o.post (J1.o.drawn nd) (J2.o.drawn nd) UG.o (J3.o.drewN' nd) H1.o H2.o;exact ⟨ba q,m,j+1,p,rfl,rfl,by rw [aD];exact hq,HJ.o,by show _=_;rw [HE.o,if_pos trivial,HP.o,HV.o,if_pos rfl,aQ],F1,F2,F3⟩
   cases m with
   | false=>simp
   | true=>simp [aD];exact HQ.o rfl
open Go.RowKit
def qH (n:Nat):∀l:List UInt8,l.length<=n->∀p∈pieces l,p.length<=l.length:=by
 induction n with
 | zero=>intro l h p hp;obtain rfl:=List.length_eq_zero_iff.1 (Nat.le_zero.1 h);simp [pieces] at hp;simp [hp]
 | succ n ih =>
  intro l h p hp;rw [mK] at hp;have h1:=nJ l;split at hp
  . rename_i hc
    rcases List.mem_cons.1 hp with rfl | hp
    . exact h1.2.1
    exact Nat.le_trans (ih _ (by have:=h1.2.2 hc;omega) p hp) h1.1
  simp only [List.mem_singleton] at hp;subst hp;exact h1.2.1
def Ta (ps:List (List UInt8)) (m:Nat) (h:∀p∈ps,p.length<=m):∀n b,b.length<=m->(eachF ps n b).2.2.length<=m:=by
 induction ps with
 | nil=>intro n b hb;exact hb
 | cons p ps ih =>
  intro n b hb;unfold eachF;split
  . exact ih (fun q hq=>h q (List.mem_cons_of_mem _ hq)) _ _ (h p List.mem_cons_self)
  exact h p List.mem_cons_self
def gU (s:ByteArray) (k:Nat):s.extract 0 k=ba ((tl s).take k):=by
 apply ByteArray.ext;apply Array.ext';simp [ba,tl]
def aR (s:ByteArray) (k:Nat):s.extract k s.size=ba ((tl s).drop k):=by
 apply ByteArray.ext;apply Array.ext';simp [ba,tl];rw [List.take_of_length_le];have:=aI s;simp [tl] at this ⊢
abbrev kj (v:List UInt8 × List UInt8):Value:=.agg #[.string (ba v.1),.string (ba v.2)]
def lJ {l:List UInt8} (h:mayB l=false):kZ l=([],[]):=by simp [kZ,h]
def iT {l:List UInt8} (h:mayB l=true):kZ l=(aheadL l,aZ l):=by simp [kZ,h]
def tH:(Tryz.prog.info? 156).map (·.size)=some 2:=by kernel_rfl
def Di (s:ByteArray) (w:World) (hG:Gd w) (hs:s.size<=4000) :
 qC 74 #[.string s] w fun e w'=>e=.returned (kj (kZ (tl s)))/\qW w w':=by
 have NI:∀(fn:Fn) (first cap:Array Value) (w:World),(Instr.makeFunc fn first cap).run Tryz.prog w=.ok (.func fn first cap) w:=fun _ _ _ _=>rfl
 by_cases h160:s.size<=160
 .
  have g1:¬((160:Int) < (s.size:Int)):=by omega
  have HG:=hid hG;have HG0:Hid (Gd (w.alloc (.cells #[.string ⟨#[]⟩,.string ⟨#[]⟩] 156))):=hG.kept (qB.alloc qN _);clear hG;obtain ⟨g,n',u,HR⟩:∃g n' u,Hid (eachF (pieces (tl s)) 0 []=(g,n',u)):=⟨_,_,_,rfl⟩;have hu:u.length<=s.size:=by
   have:=Ta (pieces (tl s)) (tl s).length (qH _ (tl s) qN) 0 [] (Nat.zero_le _);rw [HR.o,aI] at this;exact this
  obtain ⟨b,HB⟩:=qX (ba u);have rt:b.size<=s.size:=by rw [<-HB.o,aD];exact hu
  have HE:Hid (∀W:World,Has W (w.heap.size+1) 9 #[.string (ba [])]->Has W (w.heap.size+2) 3 #[.int .i64 ((0:Nat):Int)]->Below (w.heap.size+1) (w.alloc (.cells #[.string ⟨#[]⟩,.string ⟨#[]⟩] 156)) W ->
   qC 121 #[.string s,.func (.func 122) #[] #[.pointer (some ⟨w.heap.size+1,0,none⟩),.pointer (some ⟨w.heap.size+2,0,none⟩)]] W fun e w'=>e=.returned (.bool g)/\Has w' (w.heap.size+1) 9 #[.string b]/\Below (w.heap.size+1) (w.alloc (.cells #[.string ⟨#[]⟩,.string ⟨#[]⟩] 156)) w'):=by
   intro W h1 h2 h3;refine (Ts s (w.heap.size+1) (w.heap.size+2) [] 0 (w.alloc (.cells #[.string ⟨#[]⟩,.string ⟨#[]⟩] 156)) W HG0.o hs (by omega) h1 h2 (by omega) (by simpa using h3) (by simp) (by simp)).mono fun e w' h=>?_
   unfold EC at h;rw [HR.o,HB.o] at h;exact ⟨h.1,h.2.1,by simpa using h.2.2.2⟩
  have HZ:Hid (Has (w.alloc (.cells #[.string ⟨#[]⟩,.string ⟨#[]⟩] 156)) w.heap.size 156 #[.string ⟨#[]⟩,.string ⟨#[]⟩]):=Has.fresh _ _ _;obtain ⟨k,HK⟩:∃k:Nat,Hid (k=s.size - b.size - 1):=⟨_,rfl⟩;have NF:max (0:Int) ((s.size:Int) - (b.size:Int) - 1)=(k:Int):=by have:=HK.o;omega
  have Q9:(k:Int)<=(s.size:Int):=by have:=HK.o;omega
  cases g with
  | false =>
   have HF:Hid (kZ (tl s)=([],[])):=lJ (by rw [mayB,<-rC,HR.o];simp);go_enter Tryz.func74,Tryz.ntmps74
   go_wp2_with (first
    | (go_at_call 121;refine (HE.o _ (Has.more (Has.fresh' _ _ _ (by simp)) _) (Has.fresh' _ _ _ (by simp)) (qB.alloc (by simp) _ |>.alloc (by simp) _)).mono ?_;rintro e1 w1 ⟨rfl,c8,r6⟩
       have c1:w1.cell? ⟨w.heap.size+1,0,none⟩=some (.string b):=c8.at_ 0;have R1:Hid (Has w1 w.heap.size 156 #[.string ⟨#[]⟩,.string ⟨#[]⟩]):=HZ.o.kept r6 (by omega);have c2:w1.cell? ⟨w.heap.size,0,none⟩=some (.string ⟨#[]⟩):=R1.o.at_ 0;have c3:w1.cell? ⟨w.heap.size,1,none⟩=some (.string ⟨#[]⟩):=R1.o.at_ 1;have f2:=R1.o.free 0;have f3:=R1.o.free 1;have W1:=hid r6;clear c8 r6))
   refine bodyPost_ret (results_cell_row rfl _ _ w.heap.size 156 #[.string ⟨#[]⟩,.string ⟨#[]⟩] (0,0) _ rfl ((R1.o.put 0 _).put 1 _) Tryz.underlying156 rfl tH) rfl ⟨by rw [HF.o];rfl,?_⟩;exact (((qB.alloc qN _).trans (W1.o.mono (by omega))).setCell qN _).setCell qN _
  | true =>
   have mi:jS (tl s)=true:=by rw [<-rC,HR.o]
   have na:tl b=aZ (tl s):=by rw [<-Km _ mi,HR.o,<-HB.o];rfl
   have NJ:aheadL (tl s)=(tl s).take k:=by rw [aheadL,HK.o,<-na,aI,aI]
   have HS:Hid (b=ba (aZ (tl s))):=by show _=_;rw [<-na,pW]
   by_cases h111:k<=111
   .
    have HF:Hid (kZ (tl s)=((tl s).take k,aZ (tl s))):=by
     show _=_
     rw [iT,NJ];rw [mayB,mi,aI,NJ,List.length_take,aI,decide_eq_true h160,decide_eq_true (by omega)];rfl
    have g3:((min k s.size:Nat):Int)<=111:=by omega
    clear mi na NJ h111;go_enter Tryz.func74,Tryz.ntmps74
    go_wp2_with (first
     | (go_at_call 121;refine (HE.o _ (Has.more (Has.fresh' _ _ _ (by simp)) _) (Has.fresh' _ _ _ (by simp)) (qB.alloc (by simp) _ |>.alloc (by simp) _)).mono ?_;rintro e1 w1 ⟨rfl,c8,r6⟩
        have c1:w1.cell? ⟨w.heap.size+1,0,none⟩=some (.string b):=c8.at_ 0;have R1:Hid (Has w1 w.heap.size 156 #[.string ⟨#[]⟩,.string ⟨#[]⟩]):=HZ.o.kept r6 (by omega);have c2:w1.cell? ⟨w.heap.size,0,none⟩=some (.string ⟨#[]⟩):=R1.o.at_ 0;have c3:w1.cell? ⟨w.heap.size,1,none⟩=some (.string ⟨#[]⟩):=R1.o.at_ 1;have f2:=R1.o.free 0;have f3:=R1.o.free 1;have W1:=hid r6;clear c8 r6))
    refine bodyPost_ret (results_cell_row rfl _ _ w.heap.size 156 _ (0,0) _ rfl ((R1.o.put 0 _).put 1 _) Tryz.underlying156 rfl tH) rfl ⟨?_,?_⟩
    . rw [HF.o]
      show Ending.returned (.agg #[.string (s.extract 0 k),.string b])=_
      rw [gU,HS.o]
    exact (((qB.alloc qN _).trans (W1.o.mono (by omega))).setCell qN _).setCell qN _
   have HF:Hid (kZ (tl s)=([],[])):=by
    show _=_
    rw [lJ];rw [mayB,mi,aI,NJ,List.length_take,aI,decide_eq_true h160,decide_eq_false (by have:=HK.o;omega)];rfl
   have g3:¬(((min k s.size:Nat):Int)<=111):=by have:=HK.o;omega
   clear mi na NJ h111;go_enter Tryz.func74,Tryz.ntmps74
   go_wp2_with (first
    | (go_at_call 121;refine (HE.o _ (Has.more (Has.fresh' _ _ _ (by simp)) _) (Has.fresh' _ _ _ (by simp)) (qB.alloc (by simp) _ |>.alloc (by simp) _)).mono ?_;rintro e1 w1 ⟨rfl,c8,r6⟩
       have c1:w1.cell? ⟨w.heap.size+1,0,none⟩=some (.string b):=c8.at_ 0;have R1:Hid (Has w1 w.heap.size 156 #[.string ⟨#[]⟩,.string ⟨#[]⟩]):=HZ.o.kept r6 (by omega);have c2:w1.cell? ⟨w.heap.size,0,none⟩=some (.string ⟨#[]⟩):=R1.o.at_ 0;have c3:w1.cell? ⟨w.heap.size,1,none⟩=some (.string ⟨#[]⟩):=R1.o.at_ 1;have f2:=R1.o.free 0;have f3:=R1.o.free 1;have W1:=hid r6;clear c8 r6))
   refine bodyPost_ret (results_cell_row rfl _ _ w.heap.size 156 #[.string ⟨#[]⟩,.string ⟨#[]⟩] (0,0) _ rfl ((R1.o.put 0 _).put 1 _) Tryz.underlying156 rfl tH) rfl ⟨by rw [HF.o];rfl,?_⟩;exact (((qB.alloc qN _).trans (W1.o.mono (by omega))).setCell qN _).setCell qN _
 have g1:(160:Int) < (s.size:Int):=by omega
 have hf:mayB (tl s)=false:=by simp [mayB,h160]
 have HF:=hid (lJ hf);clear hf hG;go_enter Tryz.func74,Tryz.ntmps74
 go_wp2;refine bodyPost_ret (results_cell_row rfl _ _ w.heap.size 156 #[.string ⟨#[]⟩,.string ⟨#[]⟩] (0,0) _ rfl (Has.fresh _ _ _) Tryz.underlying156 rfl tH) rfl ⟨by rw [HF.o];rfl,?_⟩;exact qB.alloc qN _
end Go.Proofs.YtahkcemdbfjilaaGreatDoor
