/- Several texts in one. Conditions: those said at each. -/
import Derived.Shelf.Strings.Builder1
import Derived.Shelf.Strings.Builder2
import Derived.Shelf.Strings.OnBuilder
import Derived.Shelf.Small.Utf8
import Derived.Shelf.Small.Bits
import Derived.Shelf.Small.Strs
import Derived.Shelf.Small.Wraps
import Derived.Shelf.Strings.BuilderF
import Derived.Shelf.Strconv.Itoa0
import Derived.Shelf.LaysM
import Derived.Shelf.Strconv.Clone
import Derived.Shelf.Strings.Search1
import Derived.Shelf.Strings.Search2
import Derived.Shelf.Strings.Search3
import Derived.Shelf.Strings.Cut
import Derived.Shelf.Strings.Shaped
import Derived.Shelf.Sort.Plain
import Derived.Shelf.Strings.LastIndex
import Derived.Shelf.Strings.Prefix
import Derived.Shelf.Strings.Runes
import Derived.Shelf.Strings.AsciiSet
import Derived.Shelf.Bits.Mul64
import Derived.Shelf.Unicode.DecodeSlow
import Derived.Shelf.Slices.Turned
import Derived.Shelf.Slices.In.SortNone
import Derived.Ground.SlgfProg
import Derived.Shelf.SlicesE.IndexFunc
import Derived.Shelf.SlicesE.DeleteFunc
import Derived.Ground.SlsfProg
import Derived.Shelf.SlSortCmp.Insertion
import Derived.Shelf.SlSortCmp.SiftDown1
import Derived.Shelf.SlSortCmp.HeapSort1
import Derived.Shelf.SlSortCmp.Insertion1
import Derived.Shelf.SlSortCmp.Median1
import Derived.Shelf.SlSortCmp.Pivot1
import Derived.Shelf.SlSortCmp.ReverseRange1
import Derived.Shelf.SlSortCmp.PartitionEqual1
import Derived.Test.YtahkcemdbfjilaaGreatDoorProg
import Derived.WalkKit
import Derived.WalkSpells
import Derived.WalkLawsBesides
import Derived.BigQuiet
import Derived.Deep.QuietTactic
import Derived.Deep.Draws
import Derived.ChangeAgain
import Derived.Lib.LaidTab
import Derived.WalkMore
import Derived.Lib.IndexMore
set_option linter.unusedSimpArgs false
set_option linter.unusedVariables false
set_option maxRecDepth 100000
namespace Go.Proofs
open Go.Shelf
def Tryz.lays156_ren:Go.Shelf.Ren:=⟨fun | 156=>29 | 165=>71 | 166=>72 | 169=>73 | 240=>119 | 241=>120 | 276=>172 | 277=>173 | n=>n,fun | 31=>34 | 9=>9 | 3=>3 | 4=>4 | 0=>0 | 20=>20 | 72=>148 | 76=>152 | 70=>146 | 37=>79 | 75=>151 | 127=>191 | 164=>240 | 5=>5 | 80=>154 | n=>n,fun | n=>n⟩
theorem Tryz.lays156:Go.Proofs.Lays.n156 Tryz.prog Tryz.lays156_ren:={
 mixed:=by kernel_rfl
 f156:=Tryz.func29.trans (congrArg some (by kernel_rfl))
 f165:=Tryz.func71.trans (congrArg some (by kernel_rfl))
 f166:=Tryz.func72.trans (congrArg some (by kernel_rfl))
 f169:=Tryz.func73.trans (congrArg some (by kernel_rfl))
 f240:=Tryz.func119.trans (congrArg some (by kernel_rfl))
 f241:=Tryz.func120.trans (congrArg some (by kernel_rfl))
 f276:=Tryz.func172.trans (congrArg some (by kernel_rfl))
 f277:=Tryz.func173.trans (congrArg some (by kernel_rfl))
 t0:=Tryz.underlying0
 a0:=Tryz.isAgg0
 z0:=Tryz.sizeOf0
 v0:=Tryz.zeroValue0
 t3:=Tryz.underlying3
 a3:=Tryz.isAgg3
 z3:=Tryz.sizeOf3
 v3:=Tryz.zeroValue3
 t4:=Tryz.underlying4
 a4:=Tryz.isAgg4
 z4:=Tryz.sizeOf4
 v4:=Tryz.zeroValue4
 t9:=Tryz.underlying9
 a9:=Tryz.isAgg9
 z9:=Tryz.sizeOf9
 v9:=Tryz.zeroValue9
 t20:=Tryz.underlying20
 a20:=Tryz.isAgg20
 z20:=Tryz.sizeOf20
 v20:=Tryz.zeroValue20
 t31:=Tryz.underlying34
 a31:=Tryz.isAgg34
 z31:=Tryz.sizeOf34
 v31:=Tryz.zeroValue34
 t37:=Tryz.underlying79
 a37:=Tryz.isAgg79
 z37:=Tryz.sizeOf79
 v37:=Tryz.zeroValue79
 t70:=Tryz.underlying146
 a70:=Tryz.isAgg146
 z70:=Tryz.sizeOf146
 v70:=Tryz.zeroValue146
 t72:=Tryz.underlying148
 a72:=Tryz.isAgg148
 z72:=Tryz.sizeOf148
 v72:=Tryz.zeroValue148
 t75:=Tryz.underlying151
 a75:=Tryz.isAgg151
 z75:=Tryz.sizeOf151
 v75:=Tryz.zeroValue151
 t76:=Tryz.underlying152
 a76:=Tryz.isAgg152
 z76:=Tryz.sizeOf152
 v76:=Tryz.zeroValue152
 t127:=Tryz.underlying191
 a127:=Tryz.isAgg191
 z127:=Tryz.sizeOf191
 v127:=Tryz.zeroValue191
 t164:=Tryz.underlying240
 a164:=Tryz.isAgg240
 z164:=Tryz.sizeOf240
 v164:=Tryz.zeroValue240 }
theorem Tryz.Builder_Extra_156:Builder.Extra Tryz.prog Tryz.lays156_ren:={
 sizeBuilder:=by kernel_rfl
 liesBuilder:=by kernel_rfl
 t5:=Tryz.underlying5
 a5:=Tryz.isAgg5
 z5:=Tryz.sizeOf5
 v5:=Tryz.zeroValue5
 infoByte:=by kernel_rfl
 cellsByte:=by kernel_rfl
 sizeByte:=by kernel_rfl
 neB5:=by decide }
open Go.RowKit in
theorem Tryz.strings_Join (bk o c:Nat) (xs:List ByteArray) (sep:ByteArray) (w:World) (hcells:∀(j:Nat) x,xs[j]? = some x→w.cell? ⟨bk,o+j,none⟩=some (.string x)) (hbk:bk < w.heap.size) (hN:xs.length≤140737488355328) (hcap:xs.length≤c) (hlen:(Lib.join (xs.map (·.data.toList)) sep.data.toList).length≤140737488355328) :
 Calls Tryz.prog 29 #[.slice (some ⟨bk,o,none⟩) xs.length c,.string sep] w fun e w'=>e=.returned (.string ⟨(Lib.join (xs.map (·.data.toList)) sep.data.toList).toArray⟩)∧Below w.heap.size w w':=Any.strings_Join Tryz.lays156 Tryz.Builder_Extra_156 bk o c xs sep w hcells hbk hN hcap hlen
def Tryz.lays103_ren:Go.Shelf.Ren:=⟨fun | 103=>47 | 210=>92 | 206=>124 | n=>n,fun | 9=>9 | 4=>4 | 24=>84 | 3=>3 | n=>n,fun | n=>n⟩
theorem Tryz.lays103:Go.Proofs.Lays.n103 Tryz.prog Tryz.lays103_ren:={
 mixed:=by kernel_rfl
 f103:=Tryz.func47.trans (congrArg some (by kernel_rfl))
 f206:=Tryz.func124.trans (congrArg some (by kernel_rfl))
 f210:=Tryz.func92.trans (congrArg some (by kernel_rfl))
 t3:=Tryz.underlying3
 a3:=Tryz.isAgg3
 z3:=Tryz.sizeOf3
 v3:=Tryz.zeroValue3
 t4:=Tryz.underlying4
 a4:=Tryz.isAgg4
 z4:=Tryz.sizeOf4
 v4:=Tryz.zeroValue4
 t9:=Tryz.underlying9
 a9:=Tryz.isAgg9
 z9:=Tryz.sizeOf9
 v9:=Tryz.zeroValue9
 t24:=Tryz.underlying84
 a24:=Tryz.isAgg84
 z24:=Tryz.sizeOf84
 v24:=Tryz.zeroValue84 }
open Go.RowKit in
theorem Tryz.strings_CutPrefix (s p:ByteArray) (w:World) :
 Calls Tryz.prog 47 #[.string s,.string p] w fun e w'=>e=.returned (.tuple #[.string ⟨(Lib.trimPrefix s.data.toList p.data.toList).toArray⟩,.bool (Lib.hasPrefix s.data.toList p.data.toList)])∧w'=w:=Any.strings_CutPrefix Tryz.lays103 s p w
def Tryz.lays122_ren:Go.Shelf.Ren:=⟨fun | 122=>205 | 215=>246 | n=>n,fun | 3=>3 | 4=>4 | n=>n,fun | n=>n⟩
theorem Tryz.lays122:Go.Proofs.Lays.n122 Tryz.prog Tryz.lays122_ren:={
 mixed:=by kernel_rfl
 f122:=Tryz.func205.trans (congrArg some (by kernel_rfl))
 f215:=Tryz.func246.trans (congrArg some (by kernel_rfl))
 t3:=Tryz.underlying3
 a3:=Tryz.isAgg3
 z3:=Tryz.sizeOf3
 v3:=Tryz.zeroValue3
 t4:=Tryz.underlying4
 a4:=Tryz.isAgg4
 z4:=Tryz.sizeOf4
 v4:=Tryz.zeroValue4 }
open Go.RowKit in
theorem Tryz.cmp_Compare_int (x y:Int) (w:World) :
 Calls Tryz.prog 205 #[.int .i64 x,.int .i64 y] w fun e w'=>e=.returned (.int .i64 (Lib.compareInt x y))∧w'=w:=Any.cmp_Compare_int Tryz.lays122 x y w
def Tryz.laysM316_ren:Go.Shelf.Ren:=⟨fun | 316=>126 | n=>n,fun | 9=>9 | 3=>3 | 4=>4 | 37=>79 | 0=>0 | 127=>191 | 5=>5 | n=>n,fun | n=>n⟩
theorem Tryz.laysM316:Go.Proofs.LaysM.n316 Tryz.prog Tryz.laysM316_ren:={
 mixed:=by kernel_rfl
 f316:=Tryz.func126.trans (congrArg some (by kernel_rfl))
 t0:=Tryz.underlying0
 a0:=Tryz.isAgg0
 z0:=Tryz.sizeOf0
 v0:=Tryz.zeroValue0
 t3:=Tryz.underlying3
 a3:=Tryz.isAgg3
 z3:=Tryz.sizeOf3
 v3:=Tryz.zeroValue3
 t4:=Tryz.underlying4
 a4:=Tryz.isAgg4
 z4:=Tryz.sizeOf4
 v4:=Tryz.zeroValue4
 t9:=Tryz.underlying9
 a9:=Tryz.isAgg9
 z9:=Tryz.sizeOf9
 v9:=Tryz.zeroValue9
 t37:=Tryz.underlying79
 a37:=Tryz.isAgg79
 z37:=Tryz.sizeOf79
 v37:=Tryz.zeroValue79
 t127:=Tryz.underlying191
 a127:=Tryz.isAgg191
 z127:=Tryz.sizeOf191
 v127:=Tryz.zeroValue191
 t5:=Tryz.underlying5
 a5:=Tryz.isAgg5
 z5:=Tryz.sizeOf5
 v5:=Tryz.zeroValue5
 i0:=by kernel_rfl
 i3:=by kernel_rfl
 i4:=by kernel_rfl
 i5:=by kernel_rfl
 i9:=by kernel_rfl
 i37:=by kernel_rfl
 i127:=by kernel_rfl }
open Go.RowKit in
theorem Tryz.stringslite_Clone (s:ByteArray) (w:World) (hlim:s.size≤281474976710656) :
 Calls Tryz.prog 126 #[.string s] w fun e w'=>e=.returned (.string s)∧Below w.heap.size w w':=Any.stringslite_Clone Tryz.laysM316 s w hlim
def Tryz.lays144_ren:Go.Shelf.Ren:=⟨fun | 144=>152 | 143=>188 | 219=>178 | 217=>210 | 225=>211 | 224=>212 | 267=>213 | 266=>248 | 314=>249 | n=>n,fun | 9=>9 | 4=>4 | 3=>3 | 5=>5 | 46=>239 | 146=>307 | 51=>53 | n=>n,fun | 1=>1 | n=>n⟩
theorem Tryz.lays144:Go.Proofs.Lays.n144 Tryz.prog Tryz.lays144_ren:={
 mixed:=by kernel_rfl
 f143:=Tryz.func188.trans (congrArg some (by kernel_rfl))
 f144:=Tryz.func152.trans (congrArg some (by kernel_rfl))
 f217:=Tryz.func210.trans (congrArg some (by kernel_rfl))
 f219:=Tryz.func178.trans (congrArg some (by kernel_rfl))
 f224:=Tryz.func212.trans (congrArg some (by kernel_rfl))
 f225:=Tryz.func211.trans (congrArg some (by kernel_rfl))
 f266:=Tryz.func248.trans (congrArg some (by kernel_rfl))
 f267:=Tryz.func213.trans (congrArg some (by kernel_rfl))
 f314:=Tryz.func249.trans (congrArg some (by kernel_rfl))
 t3:=Tryz.underlying3
 a3:=Tryz.isAgg3
 z3:=Tryz.sizeOf3
 v3:=Tryz.zeroValue3
 t4:=Tryz.underlying4
 a4:=Tryz.isAgg4
 z4:=Tryz.sizeOf4
 v4:=Tryz.zeroValue4
 t5:=Tryz.underlying5
 a5:=Tryz.isAgg5
 z5:=Tryz.sizeOf5
 v5:=Tryz.zeroValue5
 t9:=Tryz.underlying9
 a9:=Tryz.isAgg9
 z9:=Tryz.sizeOf9
 v9:=Tryz.zeroValue9
 t46:=Tryz.underlying239
 a46:=Tryz.isAgg239
 z46:=Tryz.sizeOf239
 v46:=Tryz.zeroValue239
 t51:=Tryz.underlying53
 a51:=Tryz.isAgg53
 z51:=Tryz.sizeOf53
 v51:=Tryz.zeroValue53
 t146:=Tryz.underlying307
 a146:=Tryz.isAgg307
 z146:=Tryz.sizeOf307
 v146:=Tryz.zeroValue307
 g1:=by kernel_rfl }
open Go.RowKit Go.Lib in
theorem Tryz.strings_Contains_one (s:ByteArray) (c:UInt8) (w:World) :
 Calls Tryz.prog 152 #[.string s,.string ⟨#[c]⟩] w fun e w'=>e=.returned (.bool (decide (0≤Lib.indexByte s.data.toList c)))∧w'=w:=Any.strings_Contains_one Tryz.lays144 s c w
def Tryz.lays145_ren:Go.Shelf.Ren:=⟨fun | 145=>90 | 220=>138 | 219=>178 | 217=>210 | 225=>211 | 224=>212 | 267=>213 | 266=>248 | 314=>249 | n=>n,fun | 9=>9 | 4=>4 | 59=>166 | 3=>3 | 5=>5 | 46=>239 | 146=>307 | 51=>53 | n=>n,fun | 1=>1 | n=>n⟩
def Tryz.laysM145_ren:Go.Shelf.Ren:=⟨fun | 145=>90 | 220=>138 | 219=>178 | 217=>210 | 225=>211 | 224=>212 | 267=>213 | 266=>248 | 314=>249 | n=>n,fun | 9=>9 | 4=>4 | 59=>166 | 3=>3 | 5=>5 | 46=>239 | 146=>307 | 51=>53 | n=>n,fun | 1=>1 | n=>n⟩
theorem Tryz.laysM145:Go.Proofs.LaysM.n145 Tryz.prog Tryz.laysM145_ren:={
 mixed:=by kernel_rfl
 f145:=Tryz.func90.trans (congrArg some (by kernel_rfl))
 f217:=Tryz.func210.trans (congrArg some (by kernel_rfl))
 f219:=Tryz.func178.trans (congrArg some (by kernel_rfl))
 f220:=Tryz.func138.trans (congrArg some (by kernel_rfl))
 f224:=Tryz.func212.trans (congrArg some (by kernel_rfl))
 f225:=Tryz.func211.trans (congrArg some (by kernel_rfl))
 f266:=Tryz.func248.trans (congrArg some (by kernel_rfl))
 f267:=Tryz.func213.trans (congrArg some (by kernel_rfl))
 f314:=Tryz.func249.trans (congrArg some (by kernel_rfl))
 t3:=Tryz.underlying3
 a3:=Tryz.isAgg3
 z3:=Tryz.sizeOf3
 v3:=Tryz.zeroValue3
 t4:=Tryz.underlying4
 a4:=Tryz.isAgg4
 z4:=Tryz.sizeOf4
 v4:=Tryz.zeroValue4
 t5:=Tryz.underlying5
 a5:=Tryz.isAgg5
 z5:=Tryz.sizeOf5
 v5:=Tryz.zeroValue5
 t9:=Tryz.underlying9
 a9:=Tryz.isAgg9
 z9:=Tryz.sizeOf9
 v9:=Tryz.zeroValue9
 t46:=Tryz.underlying239
 a46:=Tryz.isAgg239
 z46:=Tryz.sizeOf239
 v46:=Tryz.zeroValue239
 t51:=Tryz.underlying53
 a51:=Tryz.isAgg53
 z51:=Tryz.sizeOf53
 v51:=Tryz.zeroValue53
 t59:=Tryz.underlying166
 a59:=Tryz.isAgg166
 z59:=Tryz.sizeOf166
 v59:=Tryz.zeroValue166
 t146:=Tryz.underlying307
 a146:=Tryz.isAgg307
 z146:=Tryz.sizeOf307
 v146:=Tryz.zeroValue307
 g1:=by kernel_rfl
 i3:=by kernel_rfl
 i4:=by kernel_rfl
 i5:=by kernel_rfl
 i9:=by kernel_rfl
 i46:=by kernel_rfl
 i51:=by kernel_rfl
 i59:=by kernel_rfl
 i146:=by kernel_rfl
 m1:=by kernel_rfl
 s1_3:=fun w h=>Go.Proofs.cell_of_shapedOpen_int (zero:=#[.int .i64 0]) (t:=3) h (of_decide_eq_true (by kernel_rfl)) (by kernel_rfl) rfl (by kernel_rfl) (by kernel_rfl) Tryz.underlying3 }
open Go.RowKit Go.Lib in
theorem Tryz.strings_Cut_shaped (s sep:ByteArray) (w:World) (h:w.ShapedOpen Tryz.prog) (hs:s.size < 4294967281) :
 Calls Tryz.prog 90 #[.string s,.string sep] w fun e w'=>e=.returned (.tuple #[.string ⟨(Lib.cut s.data.toList sep.data.toList).1.toArray⟩,.string ⟨(Lib.cut s.data.toList sep.data.toList).2.1.toArray⟩,.bool (Lib.cut s.data.toList sep.data.toList).2.2])∧∃n,w'=w.drewN n:=Any.strings_Cut_shaped Tryz.laysM145 s sep w h hs
def Tryz.lays190_ren:Go.Shelf.Ren:=⟨fun | 190=>155 | 125=>191 | 258=>190 | 128=>231 | 129=>232 | 302=>222 | 303=>223 | 304=>224 | 305=>225 | 306=>226 | 307=>227 | 308=>228 | 309=>229 | 310=>230 | 333=>261 | 329=>262 | 330=>263 | 334=>264 | 335=>265 | 336=>266 | 344=>275 | n=>n,fun | 31=>34 | 9=>9 | 3=>3 | 46=>239 | 0=>0 | 51=>53 | 53=>266 | 4=>4 | 183=>286 | 182=>285 | 131=>108 | 5=>5 | 218=>319 | 222=>323 | 228=>330 | 229=>331 | n=>n,fun | n=>n⟩
theorem Tryz.lays190:Go.Proofs.Lays.n190 Tryz.prog Tryz.lays190_ren:={
 mixed:=by kernel_rfl
 f125:=Tryz.func191.trans (congrArg some (by kernel_rfl))
 f128:=Tryz.func231.trans (congrArg some (by kernel_rfl))
 f129:=Tryz.func232.trans (congrArg some (by kernel_rfl))
 f190:=Tryz.func155.trans (congrArg some (by kernel_rfl))
 f258:=Tryz.func190.trans (congrArg some (by kernel_rfl))
 f302:=Tryz.func222.trans (congrArg some (by kernel_rfl))
 f303:=Tryz.func223.trans (congrArg some (by kernel_rfl))
 f304:=Tryz.func224.trans (congrArg some (by kernel_rfl))
 f305:=Tryz.func225.trans (congrArg some (by kernel_rfl))
 f306:=Tryz.func226.trans (congrArg some (by kernel_rfl))
 f307:=Tryz.func227.trans (congrArg some (by kernel_rfl))
 f308:=Tryz.func228.trans (congrArg some (by kernel_rfl))
 f309:=Tryz.func229.trans (congrArg some (by kernel_rfl))
 f310:=Tryz.func230.trans (congrArg some (by kernel_rfl))
 f329:=Tryz.func262.trans (congrArg some (by kernel_rfl))
 f330:=Tryz.func263.trans (congrArg some (by kernel_rfl))
 f333:=Tryz.func261.trans (congrArg some (by kernel_rfl))
 f334:=Tryz.func264.trans (congrArg some (by kernel_rfl))
 f335:=Tryz.func265.trans (congrArg some (by kernel_rfl))
 f336:=Tryz.func266.trans (congrArg some (by kernel_rfl))
 f344:=Tryz.func275.trans (congrArg some (by kernel_rfl))
 t0:=Tryz.underlying0
 a0:=Tryz.isAgg0
 z0:=Tryz.sizeOf0
 v0:=Tryz.zeroValue0
 t3:=Tryz.underlying3
 a3:=Tryz.isAgg3
 z3:=Tryz.sizeOf3
 v3:=Tryz.zeroValue3
 t4:=Tryz.underlying4
 a4:=Tryz.isAgg4
 z4:=Tryz.sizeOf4
 v4:=Tryz.zeroValue4
 t5:=Tryz.underlying5
 a5:=Tryz.isAgg5
 z5:=Tryz.sizeOf5
 v5:=Tryz.zeroValue5
 t9:=Tryz.underlying9
 a9:=Tryz.isAgg9
 z9:=Tryz.sizeOf9
 v9:=Tryz.zeroValue9
 t31:=Tryz.underlying34
 a31:=Tryz.isAgg34
 z31:=Tryz.sizeOf34
 v31:=Tryz.zeroValue34
 t46:=Tryz.underlying239
 a46:=Tryz.isAgg239
 z46:=Tryz.sizeOf239
 v46:=Tryz.zeroValue239
 t51:=Tryz.underlying53
 a51:=Tryz.isAgg53
 z51:=Tryz.sizeOf53
 v51:=Tryz.zeroValue53
 t53:=Tryz.underlying266
 a53:=Tryz.isAgg266
 z53:=Tryz.sizeOf266
 v53:=Tryz.zeroValue266
 t131:=Tryz.underlying108
 a131:=Tryz.isAgg108
 z131:=Tryz.sizeOf108
 v131:=Tryz.zeroValue108
 t182:=Tryz.underlying285
 a182:=Tryz.isAgg285
 z182:=Tryz.sizeOf285
 v182:=Tryz.zeroValue285
 t183:=Tryz.underlying286
 a183:=Tryz.isAgg286
 z183:=Tryz.sizeOf286
 v183:=Tryz.zeroValue286
 t218:=Tryz.underlying319
 a218:=Tryz.isAgg319
 z218:=Tryz.sizeOf319
 v218:=Tryz.zeroValue319
 t222:=Tryz.underlying323
 a222:=Tryz.isAgg323
 z222:=Tryz.sizeOf323
 v222:=Tryz.zeroValue323
 t228:=Tryz.underlying330
 a228:=Tryz.isAgg330
 z228:=Tryz.sizeOf330
 v228:=Tryz.zeroValue330
 t229:=Tryz.underlying331
 a229:=Tryz.isAgg331
 z229:=Tryz.sizeOf331
 v229:=Tryz.zeroValue331 }
open Go.Sort Go.RowKit in
theorem Tryz.slices_Sort_string (blk off cap:Nat) (ss:List (List UInt8)) (w:World) (hH:Holds encStr w blk off ss.toArray) (hblk:blk < w.heap.size) (hsz:ss.length < 4611686018427387904) :
 Calls Tryz.prog 155 #[.slice (some ⟨blk,off,none⟩) ss.length cap] w fun e w' =>
  e=.returned (.tuple #[])∧∃n os,w'=grow (putRow encStr (Sort.ahead w n) blk off (ss.mergeSort fun x y=>decide (x≤y)).toArray) os:=Any.slices_Sort_string Tryz.lays190 blk off cap ss w hH hblk hsz
def Tryz.lays149_ren:Go.Shelf.Ren:=⟨fun | 149=>125 | 222=>174 | n=>n,fun | 9=>9 | 5=>5 | 3=>3 | 4=>4 | n=>n,fun | n=>n⟩
theorem Tryz.lays149:Go.Proofs.Lays.n149 Tryz.prog Tryz.lays149_ren:={
 mixed:=by kernel_rfl
 f149:=Tryz.func125.trans (congrArg some (by kernel_rfl))
 f222:=Tryz.func174.trans (congrArg some (by kernel_rfl))
 t3:=Tryz.underlying3
 a3:=Tryz.isAgg3
 z3:=Tryz.sizeOf3
 v3:=Tryz.zeroValue3
 t4:=Tryz.underlying4
 a4:=Tryz.isAgg4
 z4:=Tryz.sizeOf4
 v4:=Tryz.zeroValue4
 t5:=Tryz.underlying5
 a5:=Tryz.isAgg5
 z5:=Tryz.sizeOf5
 v5:=Tryz.zeroValue5
 t9:=Tryz.underlying9
 a9:=Tryz.isAgg9
 z9:=Tryz.sizeOf9
 v9:=Tryz.zeroValue9 }
open Go.RowKit Go.Lib in
theorem Tryz.strings_LastIndexByte (s:ByteArray) (c:Int) (hs:s.size < 4611686018427387904) (w:World) :
 Calls Tryz.prog 125 #[.string s,.int .u8 c] w fun e w'=>e=.returned (.int .i64 (Lib.lastIndexByte s c))∧w'=w:=Any.strings_LastIndexByte Tryz.lays149 s c hs w
def Tryz.lays99_ren:Go.Shelf.Ren:=⟨fun | 99=>75 | 206=>124 | n=>n,fun | 9=>9 | 4=>4 | 3=>3 | n=>n,fun | n=>n⟩
theorem Tryz.lays99:Go.Proofs.Lays.n99 Tryz.prog Tryz.lays99_ren:={
 mixed:=by kernel_rfl
 f99:=Tryz.func75.trans (congrArg some (by kernel_rfl))
 f206:=Tryz.func124.trans (congrArg some (by kernel_rfl))
 t3:=Tryz.underlying3
 a3:=Tryz.isAgg3
 z3:=Tryz.sizeOf3
 v3:=Tryz.zeroValue3
 t4:=Tryz.underlying4
 a4:=Tryz.isAgg4
 z4:=Tryz.sizeOf4
 v4:=Tryz.zeroValue4
 t9:=Tryz.underlying9
 a9:=Tryz.isAgg9
 z9:=Tryz.sizeOf9
 v9:=Tryz.zeroValue9 }
open Go.RowKit Go.Lib in
theorem Tryz.strings_HasPrefix (s p:ByteArray) (w:World) :
 Calls Tryz.prog 75 #[.string s,.string p] w fun e w'=>e=.returned (.bool (Lib.hasPrefix s.data.toList p.data.toList))∧w'=w:=Any.strings_HasPrefix Tryz.lays99 s p w
def Tryz.lays227_ren:Go.Shelf.Ren:=⟨fun | 227=>141 | n=>n,fun | 9=>9 | 116=>203 | 4=>4 | 0=>0 | 3=>3 | 5=>5 | n=>n,fun | n=>n⟩
theorem Tryz.lays227:Go.Proofs.Lays.n227 Tryz.prog Tryz.lays227_ren:={
 mixed:=by kernel_rfl
 f227:=Tryz.func141.trans (congrArg some (by kernel_rfl))
 t0:=Tryz.underlying0
 a0:=Tryz.isAgg0
 z0:=Tryz.sizeOf0
 v0:=Tryz.zeroValue0
 t3:=Tryz.underlying3
 a3:=Tryz.isAgg3
 z3:=Tryz.sizeOf3
 v3:=Tryz.zeroValue3
 t4:=Tryz.underlying4
 a4:=Tryz.isAgg4
 z4:=Tryz.sizeOf4
 v4:=Tryz.zeroValue4
 t5:=Tryz.underlying5
 a5:=Tryz.isAgg5
 z5:=Tryz.sizeOf5
 v5:=Tryz.zeroValue5
 t9:=Tryz.underlying9
 a9:=Tryz.isAgg9
 z9:=Tryz.sizeOf9
 v9:=Tryz.zeroValue9
 t116:=Tryz.underlying203
 a116:=Tryz.isAgg203
 z116:=Tryz.sizeOf203 }
open Go.RowKit Go.Lib in
theorem Tryz.strings_makeASCIISet (hv116:∀w,(zeroValue 203).run Tryz.prog w=.ok (.agg (Array.replicate 256 (.bool false))) w) (chars:ByteArray) (w:World) (hs:chars.size < 4294967281) (hascii:∀(j:Nat) b,chars.data.toList[j]? = some b→b.toNat < 128) :
 Calls Tryz.prog 141 #[.string chars] w fun e w'=>e=.returned (.tuple #[.agg (Lib.setCells chars.data.toList),.bool true])∧w'=w.alloc (.cells (Lib.setCells chars.data.toList) 203):=Any.strings_makeASCIISet Tryz.lays227 hv116 (by kernel_rfl) chars w hs hascii
def Tryz.lays228_ren:Go.Shelf.Ren:=⟨fun | 228=>179 | n=>n,fun | 124=>207 | 5=>5 | 4=>4 | 0=>0 | 116=>203 | n=>n,fun | n=>n⟩
theorem Tryz.lays228:Go.Proofs.Lays.n228 Tryz.prog Tryz.lays228_ren:={
 mixed:=by kernel_rfl
 f228:=Tryz.func179.trans (congrArg some (by kernel_rfl))
 t0:=Tryz.underlying0
 a0:=Tryz.isAgg0
 z0:=Tryz.sizeOf0
 v0:=Tryz.zeroValue0
 t4:=Tryz.underlying4
 a4:=Tryz.isAgg4
 z4:=Tryz.sizeOf4
 v4:=Tryz.zeroValue4
 t5:=Tryz.underlying5
 a5:=Tryz.isAgg5
 z5:=Tryz.sizeOf5
 v5:=Tryz.zeroValue5
 t116:=Tryz.underlying203
 a116:=Tryz.isAgg203
 z116:=Tryz.sizeOf203
 t124:=Tryz.underlying207
 a124:=Tryz.isAgg207
 z124:=Tryz.sizeOf207
 v124:=Tryz.zeroValue207 }
open Go.RowKit Go.Lib in
theorem Tryz.asciiSet_contains (b:Nat) (x:UInt8) (v:Bool) (w:World) (hc:w.cell? ⟨b,x.toNat,none⟩=some (.bool v)) :
 Calls Tryz.prog 179 #[.pointer (some ⟨b,0,none⟩),.int .u8 x.toNat] w fun e w'=>e=.returned (.bool v)∧w'=w:=Any.asciiSet_contains Tryz.lays228 b x v w hc
def Tryz.lays264_ren:Go.Shelf.Ren:=⟨fun | 264=>269 | n=>n,fun | 53=>266 | 46=>239 | n=>n,fun | n=>n⟩
theorem Tryz.lays264:Go.Proofs.Lays.n264 Tryz.prog Tryz.lays264_ren:={
 mixed:=by kernel_rfl
 f264:=Tryz.func269.trans (congrArg some (by kernel_rfl))
 t46:=Tryz.underlying239
 a46:=Tryz.isAgg239
 z46:=Tryz.sizeOf239
 v46:=Tryz.zeroValue239
 t53:=Tryz.underlying266
 a53:=Tryz.isAgg266
 z53:=Tryz.sizeOf266
 v53:=Tryz.zeroValue266 }
open Go.RowKit Go.Lib in
theorem Tryz.bits_Mul64 (x y:Nat) (hx:x < 18446744073709551616) (hy:y < 18446744073709551616) (w:World) :
 Calls Tryz.prog 269 #[.int .u64 x,.int .u64 y] w fun e w'=>e=.returned (.tuple #[.int .u64 ((x*y / 18446744073709551616:Nat):Int),.int .u64 ((x*y % 18446744073709551616:Nat):Int)])∧w'=w:=Any.bits_Mul64 Tryz.lays264 x y hx hy w
def Tryz.lays110_ren:Go.Shelf.Ren:=⟨fun | 110=>43 | 109=>89 | n=>n,fun | 31=>34 | 9=>9 | 4=>4 | 3=>3 | 0=>0 | n=>n,fun | n=>n⟩
theorem Tryz.lays110:Go.Proofs.Lays.n110 Tryz.prog Tryz.lays110_ren:={
 mixed:=by kernel_rfl
 f109:=Tryz.func89.trans (congrArg some (by kernel_rfl))
 f110:=Tryz.func43.trans (congrArg some (by kernel_rfl))
 t0:=Tryz.underlying0
 a0:=Tryz.isAgg0
 z0:=Tryz.sizeOf0
 v0:=Tryz.zeroValue0
 t3:=Tryz.underlying3
 a3:=Tryz.isAgg3
 z3:=Tryz.sizeOf3
 v3:=Tryz.zeroValue3
 t4:=Tryz.underlying4
 a4:=Tryz.isAgg4
 z4:=Tryz.sizeOf4
 v4:=Tryz.zeroValue4
 t9:=Tryz.underlying9
 a9:=Tryz.isAgg9
 z9:=Tryz.sizeOf9
 v9:=Tryz.zeroValue9
 t31:=Tryz.underlying34
 a31:=Tryz.isAgg34
 z31:=Tryz.sizeOf34
 v31:=Tryz.zeroValue34 }
open Go.Lib in
theorem Tryz.slices_Contains_string (b off n c:Nat) (zs:List ByteArray) (x:ByteArray) (w:World) (hz:n≤zs.length) (hbig:n≤9223372036854775807) (hc:∀j,j < zs.length→w.cell? ⟨b,off+j,none⟩=some (.string (zs.getD j ByteArray.empty))) :
 Calls Tryz.prog 43 #[.slice (some ⟨b,off,none⟩) n c,.string x] w fun e w'=>e=.returned (.bool (Lib.containsS (zs.take n) x))∧w'=w:=Any.slices_Contains_string Tryz.lays110 b off n c zs x w hz hbig hc
open Go.Lib in
theorem Tryz.slices_Contains_string_empty (a:Option Addr) (c:Nat) (x:ByteArray) (w:World) :
 Calls Tryz.prog 43 #[.slice a 0 c,.string x] w fun e w'=>e=.returned (.bool false)∧w'=w:=Any.slices_Contains_string_empty Tryz.lays110 a c x w
open Go.RowKit Go.Sort in
theorem Tryz.slices_Sort_string_none (p:Option Addr) (cap:Nat) (w:World) :
 Calls Tryz.prog 155 #[.slice p 0 cap] w fun e w'=>e=.returned (.tuple #[])∧w'=w:=Any.slices_Sort_string_none Tryz.lays190 p cap w
def Tryz.laysSlH6_f189_ren:Go.Shelf.Ren:=⟨fun | 6=>189 | n=>n,fun | 22=>34 | 23=>9 | 25=>87 | 3=>3 | 0=>0 | 4=>4 | n=>n,fun | n=>n⟩
theorem Tryz.laysSlH6_f189:Go.Proofs.SlLaysH.n6 Tryz.prog Tryz.laysSlH6_f189_ren:={
 mixed:=by kernel_rfl
 f6:=⟨Tryz.f189.name,by decide,Tryz.func189.trans (congrArg some (by kernel_rfl))⟩
 t0:=Tryz.underlying0
 a0:=Tryz.isAgg0
 z0:=Tryz.sizeOf0
 v0:=Tryz.zeroValue0
 t3:=Tryz.underlying3
 a3:=Tryz.isAgg3
 z3:=Tryz.sizeOf3
 v3:=Tryz.zeroValue3
 t4:=Tryz.underlying4
 a4:=Tryz.isAgg4
 z4:=Tryz.sizeOf4
 v4:=Tryz.zeroValue4
 t22:=Tryz.underlying34
 a22:=Tryz.isAgg34
 z22:=Tryz.sizeOf34
 v22:=Tryz.zeroValue34
 a23:=Tryz.isAgg9
 z23:=Tryz.sizeOf9
 t25:=Tryz.underlying87
 a25:=Tryz.isAgg87
 z25:=Tryz.sizeOf87
 v25:=Tryz.zeroValue87 }
open Go.RowKit Go.Lib in
theorem Tryz.slices_IndexFunc_empty {α:Type} [Inhabited α] (a:Option Addr) (c:Nat) (fv:Value) (w:World) :
 Calls Tryz.prog 189 #[.slice a 0 c,fv] w fun e w'=>e=.returned (.int .i64 (-1))∧w'=w:=AnyE.slices_IndexFunc_empty Tryz.laysSlH6_f189 a c fv w
def Tryz.laysSlH10_f153_ren:Go.Shelf.Ren:=⟨fun | 10=>153 | 6=>189 | n=>n,fun | 22=>34 | 23=>9 | 25=>87 | 3=>3 | 4=>4 | 0=>0 | n=>n,fun | n=>n⟩
theorem Tryz.laysSlH10_f153:Go.Proofs.SlLaysH.n10 Tryz.prog Tryz.laysSlH10_f153_ren:={
 mixed:=by kernel_rfl
 f6:=⟨Tryz.f189.name,by decide,Tryz.func189.trans (congrArg some (by kernel_rfl))⟩
 f10:=⟨Tryz.f153.name,by decide,Tryz.func153.trans (congrArg some (by kernel_rfl))⟩
 t0:=Tryz.underlying0
 a0:=Tryz.isAgg0
 z0:=Tryz.sizeOf0
 v0:=Tryz.zeroValue0
 t3:=Tryz.underlying3
 a3:=Tryz.isAgg3
 z3:=Tryz.sizeOf3
 v3:=Tryz.zeroValue3
 t4:=Tryz.underlying4
 a4:=Tryz.isAgg4
 z4:=Tryz.sizeOf4
 v4:=Tryz.zeroValue4
 t22:=Tryz.underlying34
 a22:=Tryz.isAgg34
 z22:=Tryz.sizeOf34
 v22:=Tryz.zeroValue34
 a23:=Tryz.isAgg9
 z23:=Tryz.sizeOf9
 t25:=Tryz.underlying87
 a25:=Tryz.isAgg87
 z25:=Tryz.sizeOf87
 v25:=Tryz.zeroValue87 }
open Go.RowKit Go.Lib Go.Sort in
theorem Tryz.slices_DeleteFunc {α:Type} [Inhabited α] (enc:α→Value) (hO:OneCell enc) (p:α→Bool) (g:Nat) (lb:Array Value) (eg:∀args w,(callFunc g args).run Tryz.prog w=.ok (.enter g args) w) (zr:α) (v23:∀w,(zeroValue 9).run Tryz.prog w=.ok (enc zr) w) (blk off cap:Nat) (d:Array α) (w:World) (hp:PredAt Tryz.prog g lb enc p w) (hpo:PredOver Tryz.prog g lb enc p blk off d.size w) (hH:Holds enc w blk off d) (hsz:d.size≤9223372036854775807) (hcap:d.size≤cap) :
 Calls Tryz.prog 153 #[.slice (some ⟨blk,off,none⟩) d.size cap,.func (.func g) #[] lb] w fun e w'=>e=.returned (.slice (some ⟨blk,off,none⟩) (d.toList.filter fun x=>!p x).length cap)∧∃q,w'=putRow enc (Sort.ahead w q) blk off ((d.toList.filter fun x=>!p x)++List.replicate (d.size - (d.toList.filter fun x=>!p x).length) zr).toArray:=AnyE.slices_DeleteFunc Tryz.laysSlH10_f153 enc hO p g lb eg zr v23 blk off cap d w hp hpo hH hsz hcap
end Go.Proofs
namespace Go.RowKit
theorem Below.drewN' {B:Nat} {a w:World} (h:Below B a w) (n:Nat):Below B a (w.drewN n):=⟨h.os,h.tape,h.output,h.size,h.block⟩
theorem Below.rowK {B:Nat} {a w:World} (h:Below B a w) {g:Nat} (hg:B≤g) (cs:Array Value):Below B a (w.setRow g cs) :=
 h.trans ⟨rfl,rfl,rfl,by simp,fun k hk=>setRow_other w g k cs (by omega)⟩
end Go.RowKit
namespace Go.Proofs.YtahkcemdbfjilaaGreatDoor
open Go.RowKit
theorem hid {p:Prop} (h:p):Hid p:=h
def b8 (x:UInt8):Int:=(x.toNat:Int)
theorem b8_nonneg (x:UInt8):0≤b8 x:=by unfold b8;omega
theorem b8_lt (x:UInt8):b8 x < 256:=by have:=x.toNat_lt;unfold b8;omega
theorem b8_inj {x y:UInt8} (h:b8 x=b8 y):x=y:=UInt8.toNat_inj.1 (by unfold b8 at h;omega)
abbrev tl (s:ByteArray):List UInt8:=s.data.toList
def at8 (l:List UInt8) (i:Nat):UInt8:=l.getD i 0
theorem tl_length (s:ByteArray):(tl s).length=s.size:=by simp [tl]
theorem i64in (x:Int) (h0:-9223372036854775808≤x) (h:x < 9223372036854775808):IntKind.i64.wrap x=x:=by
 simp [IntKind.wrap,IntKind.signed,IntKind.bits];omega
theorem index_str (s:ByteArray) (i:Nat) (h:i < s.size) (w:World):(Instr.index 9 (.string s) (.int .i64 (i:Int))).run Tryz.prog w=.ok (.int .u8 (b8 (at8 (tl s) i))) w:=by
 rw [run_index_string (P:=Tryz.prog) w 9 s .i64 (i:Int) Tryz.underlying9,dif_pos ⟨by omega,by omega⟩]
 have:s[(i:Int).toNat]'(by simpa using h)=at8 (tl s) i:=by
  have h2:i < s.data.toList.length:=by simpa using h
  show s[i]=_
  simp only [at8,tl,List.getD,List.getElem?_eq_getElem h2,Option.getD_some];rfl
 rw [this];rfl
def rk (c:UInt8):Nat:=if c=47 then 0 else c.toNat+1
def cmpL:List UInt8→List UInt8→Int
 | [],[]=>0
 | [],_ :: _=>-1
 | _ :: _,[]=>1
 | x :: a,y :: b=>if x=y then cmpL a b else if rk x < rk y then -1 else 1
theorem cmpL_drop (a b:List UInt8) (k:Nat) (h1:k≤a.length) (h2:k≤b.length) (h:a.take k=b.take k):cmpL a b=cmpL (a.drop k) (b.drop k):=by
 induction k generalizing a b with
 | zero=>rfl
 | succ k ih =>
  match a,b,h1,h2 with
  | x :: a,y :: b,h1,h2 =>
   simp only [List.take_succ_cons,List.cons.injEq] at h;simp only [List.length_cons] at h1 h2;obtain ⟨rfl,h⟩:=h;rw [cmpL,if_pos rfl,ih a b (by omega) (by omega) h];rfl
theorem cmpL_end (a b:List UInt8) (k:Nat) (hk:k=min a.length b.length) (h:a.take k=b.take k):cmpL a b=Lib.compareInt (a.length:Int) (b.length:Int):=by
 rw [cmpL_drop a b k (by omega) (by omega) h]
 rcases Nat.lt_trichotomy a.length b.length with h1 | h1 | h1
 · rw [List.drop_of_length_le (l:=a) (by omega),List.drop_eq_getElem_cons (l:=b) (i:=k) (by omega),cmpL]
   simp [Lib.compareInt];omega
 · rw [List.drop_of_length_le (l:=a) (by omega),List.drop_of_length_le (l:=b) (by omega),cmpL]
   simp [Lib.compareInt];omega
 · rw [List.drop_of_length_le (l:=b) (by omega),List.drop_eq_getElem_cons (l:=a) (i:=k) (by omega),cmpL]
   simp [Lib.compareInt];omega
theorem cmpL_at (a b:List UInt8) (k:Nat) (h1:k < a.length) (h2:k < b.length) (h:a.take k=b.take k) (hne:at8 a k≠at8 b k):cmpL a b=if rk (at8 a k) < rk (at8 b k) then -1 else 1:=by
 rw [cmpL_drop a b k (by omega) (by omega) h,List.drop_eq_getElem_cons h1,List.drop_eq_getElem_cons h2,cmpL]
 have e1:at8 a k=a[k]:=by simp [at8,List.getD,List.getElem?_eq_getElem h1]
 have e2:at8 b k=b[k]:=by simp [at8,List.getD,List.getElem?_eq_getElem h2]
 rw [e1,e2] at hne;rw [if_neg hne,e1,e2]
theorem take_same {a b:List UInt8} {k:Nat} (h1:k < a.length) (h2:k < b.length) (h:a.take k=b.take k) (he:at8 a k=at8 b k):a.take (k+1)=b.take (k+1):=by
 rw [List.take_succ_eq_append_getElem h1,List.take_succ_eq_append_getElem h2,h];have e1:at8 a k=a[k]:=by simp [at8,List.getD,List.getElem?_eq_getElem h1]
 have e2:at8 b k=b[k]:=by simp [at8,List.getD,List.getElem?_eq_getElem h2]
 rw [←e1,←e2,he]
theorem ret_i64 {a b:Int} (h:a=b):Ending.returned (.int .i64 a)=.returned (.int .i64 b):=by rw [h]
theorem cmpInt_any (x y:Int) (w:World):Calls Tryz.prog 205 #[.int .i64 x,.int .i64 y] w fun e w'=>e=.returned (.int .i64 (Lib.compareInt x y))∧w=w' :=
 (Tryz.cmp_Compare_int x y w).mono fun _ _ ⟨a,b⟩=>⟨a,b.symm⟩
theorem drewYtahkcemdbfjilaaGreatDooradd (w:World) (a b:Nat):(w.drewN a).drewN b=w.drewN (a+b):=by
 simp [World.drewN,Nat.add_assoc]
set_option maxHeartbeats 400000 in
theorem cmp_any (a b:ByteArray) (w:World) (ha:a.size≤140737488355328) (hb:b.size≤140737488355328) :
 Calls Tryz.prog 168 #[.string a,.string b] w fun e w'=>e=.returned (.int .i64 (cmpL (tl a) (tl b)))∧∃n,w'=w.drewN n:=by
 go_enter Tryz.func168,Tryz.ntmps168
 go_wp2;go_step3
 go_wp2_with (go_at_call 205;refine (cmpInt_any _ _ _).mono ?_;rintro e1 w1 ⟨rfl,rfl⟩)
 go_step3
 go_wp2;go_loopw [5,19] (fun v i wr=>∃k:Nat,k≤a.size∧k≤b.size∧i=.int .i64 (k:Int)∧v=.int .i64 (Lib.compareInt (a.size:Int) (b.size:Int))∧Hid ((tl a).take k=(tl b).take k)∧Hid (∃n,wr=w.drewN n))
  (fun _ i _=>a.size - (intOf i).toNat)
 case atStart=>exact ⟨0,by omega,by omega,rfl,rfl,rfl,0,rfl⟩
 case round =>
  obtain ⟨k,hk1,hk2,rfl,rfl,HT,HB⟩:=hrel;by_cases hlt:k < a.size∧k < b.size
  · obtain ⟨l1,l2⟩:=hlt
    have i1:=index_str a k l1;have i2:=index_str b k l2;have HS:=hid (fun he:at8 (tl a) k=at8 (tl b) k=>take_same (a:=tl a) (b:=tl b) (by rw [tl_length];exact l1) (by rw [tl_length];exact l2) HT.out he)
    have HD:=hid (fun he:at8 (tl a) k≠at8 (tl b) k=>cmpL_at (tl a) (tl b) k (by rw [tl_length];exact l1) (by rw [tl_length];exact l2) HT.out he)
    generalize at8 (tl a) k=x at i1 HS HD;generalize at8 (tl b) k=y at i2 HS HD;have b1:=b8_nonneg x;have b2:=b8_nonneg y;have b3:=b8_lt x;have b4:=b8_lt y;have bx:x=47↔b8 x=47:=⟨fun h=>by rw [h];rfl,fun h=>b8_inj h⟩
    have by':y=47↔b8 y=47:=⟨fun h=>by rw [h];rfl,fun h=>b8_inj h⟩
    have rx:rk x=if b8 x=47 then 0 else (b8 x).toNat+1:=by simp only [rk,bx];rfl
    have ry:rk y=if b8 y=47 then 0 else (b8 y).toNat+1:=by simp only [rk,by'];rfl
    by_cases hxy:x=y
    · subst hxy
      have q1:(b8 x == b8 x)=true:=by simp
      have HS2:=hid (HS.out rfl);clear HD bx by' rx ry HS
      go_wp2;go_quiet (fail)
      go_wp2;go_roundw
      case rel=>exact ⟨k+1,by omega,by omega,by go_num,rfl,HS2.out,HB.out.elim fun n hn=>⟨n+_,by rw [hn];exact drewYtahkcemdbfjilaaGreatDooradd _ _ _⟩⟩
      case measure=>simp [intOf];omega
    · have q1:(b8 x == b8 y)=false:=by
       simp only [beq_eq_false_iff_ne,ne_eq];exact fun h=>hxy (b8_inj h)
      have HF:=hid (HD.out hxy);have HN:Hid (b8 x≠b8 y):=fun h=>hxy (b8_inj h)
      have HX:=hid rx;have HY:=hid ry;clear HD HS hxy rx ry bx by'
      by_cases c1:b8 x=47
      · have q2:(b8 x == 47)=true:=by simp [c1]
        have hv:cmpL (tl a) (tl b) = -1:=by
         rw [HF.out,if_pos];rw [HX.out,HY.out,if_pos c1];have:=HN.out;split<;>omega
        have HV:=hid hv;clear c1 hv;go_wp2;go_quiet (fail)
        go_wp2;rw [Exit.noGoto_ret];go_ret;exact ⟨ret_i64 HV.out.symm,HB.out.elim fun n hn=>⟨n+_,by rw [hn];exact drewYtahkcemdbfjilaaGreatDooradd _ _ _⟩⟩
      · have q2:(b8 x == 47)=false:=by simp [c1]
        by_cases c2:b8 y=47
        · have q3:(b8 y == 47)=true:=by simp [c2]
          have q3':(b8 y != 47)=false:=by simp [c2]
          have hv:cmpL (tl a) (tl b)=1:=by
            rw [HF.out,if_neg];rw [HX.out,HY.out,if_pos c2,if_neg c1];omega
          have HV:=hid hv;clear c1 c2 hv;go_wp2;go_quiet (fail)
          go_wp2;rw [Exit.noGoto_ret];go_ret;exact ⟨ret_i64 HV.out.symm,HB.out.elim fun n hn=>⟨n+_,by rw [hn];exact drewYtahkcemdbfjilaaGreatDooradd _ _ _⟩⟩
        · have q3:(b8 y == 47)=false:=by simp [c2]
          have q3':(b8 y != 47)=true:=by simp [c2]
          by_cases c3:b8 x < b8 y
          · have q4:decide (b8 x < b8 y)=true:=by simp [c3]
            have hv:cmpL (tl a) (tl b) = -1:=by
             rw [HF.out,if_pos];rw [HX.out,HY.out,if_neg c2,if_neg c1];omega
            have HV:=hid hv;clear c1 c2 hv;go_wp2;go_quiet (fail)
            go_wp2;rw [Exit.noGoto_ret];go_ret;exact ⟨ret_i64 HV.out.symm,HB.out.elim fun n hn=>⟨n+_,by rw [hn];exact drewYtahkcemdbfjilaaGreatDooradd _ _ _⟩⟩
          · have q4:decide (b8 x < b8 y)=false:=by simp [c3]
            have hv:cmpL (tl a) (tl b)=1:=by
             rw [HF.out,if_neg];rw [HX.out,HY.out,if_neg c2,if_neg c1];omega
            have HV:=hid hv;clear c1 c2 hv;go_wp2;go_quiet (fail)
            go_wp2;rw [Exit.noGoto_ret];go_ret;exact ⟨ret_i64 HV.out.symm,HB.out.elim fun n hn=>⟨n+_,by rw [hn];exact drewYtahkcemdbfjilaaGreatDooradd _ _ _⟩⟩
  · have HK:Hid (k=min a.size b.size):=by show _=_;omega
    go_wp2;try rw [Exit.noGoto_ret]
    go_ret;refine ⟨ret_i64 ?_,HB.out⟩;rw [cmpL_end (tl a) (tl b) k (by rw [tl_length,tl_length];exact HK.out) HT.out,tl_length,tl_length]
end Go.Proofs.YtahkcemdbfjilaaGreatDoor
namespace Go.Proofs.YtahkcemdbfjilaaGreatDoor
open Go.RowKit
def cutS:List UInt8→List UInt8 × List UInt8 × Bool
 | []=>([],[],false)
 | c :: l=>if c=47 then ([],l,true) else (c :: (cutS l).1,(cutS l).2.1,(cutS l).2.2)
theorem cut_one (l:List UInt8):Lib.cut l [47]=cutS l:=by
 induction l with
 | nil=>rfl
 | cons c l ih =>
  have hge:=Lib.index_ge l [47];unfold Lib.cut Lib.index cutS;by_cases hc:c=47
  · subst hc;rfl
  · have h1:[47].isPrefixOf (c :: l)=false:=by simp [List.isPrefixOf,Ne.symm hc]
    rw [if_neg (show ¬[47].isPrefixOf (c :: l)=true by rw [h1];decide),if_neg hc,←ih]
    unfold Lib.cut;by_cases hi:Lib.index l [47] = -1
    · rw [hi];rfl
    · have h0:(0:Int)≤Lib.index l [47]:=by omega
      have h2:¬(Lib.index l [47] == -1)=true:=by simpa using hi
      rw [if_neg h2,if_pos h0,if_pos (show (0:Int)≤Lib.index l [47]+1 by omega)]
      obtain ⟨n,hn⟩:=Int.eq_ofNat_of_zero_le h0;rw [hn];have e:((n:Int)+1).toNat=n+1:=by omega
      simp only [e,Int.toNat_natCast,List.take_succ_cons,List.length_singleton];rw [show n+1+1=(n+1)+1 from rfl,List.drop_succ_cons]
def pieces:List UInt8→List (List UInt8)
 | []=>[[]]
 | c :: l=>if c=47 then [] :: pieces l else match pieces l with | p :: ps=>(c :: p) :: ps | []=>[[c]]
theorem pieces_cut (l:List UInt8):pieces l=if (cutS l).2.2 then (cutS l).1 :: pieces (cutS l).2.1 else [(cutS l).1]:=by
 induction l with
 | nil=>rfl
 | cons c l ih =>
  rw [pieces,cutS];by_cases hc:c=47
  · rw [if_pos hc,if_pos hc,if_pos rfl]
  · rw [if_neg hc,if_neg hc,ih]
    cases h:(cutS l).2.2
    · rfl
    · rfl
theorem cutS_len (l:List UInt8):(cutS l).2.1.length≤l.length∧(cutS l).1.length≤l.length∧((cutS l).2.2=true→(cutS l).2.1.length < l.length):=by
 induction l with
 | nil=>simp [cutS]
 | cons c l ih =>
  unfold cutS;by_cases hc:c=47
  · simp [hc]
  · rw [if_neg hc];simp only [List.length_cons];refine ⟨by omega,by omega,fun h=>by have:=ih.2.2 h;omega⟩
theorem pieces_ne (l:List UInt8):pieces l≠[]:=by
 rw [pieces_cut];split<;>simp
def lastP (l:List UInt8):List UInt8:=(pieces l).getLast (pieces_ne l)
def okB (c:UInt8):Bool:=!decide (b8 c < 32)&&!(b8 c == 127)&&!(b8 c == 47)
def headB (l:List UInt8):Bool:=!decide (l=[])&&decide (l.length≤48)&&!decide (l=[46])&&!decide (l=[46,46])
def nameB (l:List UInt8):Bool:=headB l&&l.all okB
def eachF:List (List UInt8)→Nat→List UInt8→Bool × Nat × List UInt8
 | [],n,b=>(true,n,b)
 | p :: ps,n,_=>if decide (n+1≤6)&&nameB p then eachF ps (n+1) p else (false,n+1,p)
def goodB (l:List UInt8):Bool:=decide ((pieces l).length≤6)&&(pieces l).all nameB
def aheadL (l:List UInt8):List UInt8:=l.take (l.length - (lastP l).length - 1)
def mayB (l:List UInt8):Bool:=decide (l.length≤160)&&goodB l&&decide ((aheadL l).length≤111)
def findV (l:List UInt8):List UInt8 × List UInt8:=if mayB l then (aheadL l,lastP l) else ([],[])
theorem eachF_good (ps:List (List UInt8)):∀n b,(eachF ps n b).1=(decide (ps=[]∨ps.length+n≤6)&&ps.all nameB):=by
 induction ps with
 | nil=>intro n b;rfl
 | cons p ps ih =>
  intro n b;unfold eachF;by_cases h1:n+1≤6<;>cases h2:nameB p
  · simp [h2]
  · simp only [h1,decide_true,Bool.and_true,if_pos]
    rw [ih];have e:decide (ps=[]∨ps.length+(n+1)≤6)=decide (p :: ps=[]∨(p :: ps).length+n≤6):=by
     rw [decide_eq_decide];simp only [List.length_cons,reduceCtorEq,false_or];constructor
     · rintro (rfl | h)
       · simp;omega
       · omega
     · intro h;right;omega
    rw [e];simp [h2]
  · simp [h2]
  · simp [h1];intro h;omega
theorem eachF_base (ps:List (List UInt8)) (h:ps≠[]):∀n b,(eachF ps n b).1=true→(eachF ps n b).2.2=ps.getLast h:=by
 induction ps with
 | nil=>exact absurd rfl h
 | cons p ps ih =>
  intro n b hg;unfold eachF at hg ⊢;split at hg
  · rename_i hc
    rw [if_pos hc];by_cases hp:ps=[]
    · subst hp;rfl
    · rw [ih hp _ _ hg,List.getLast_cons hp]
  · cases hg
theorem goodB_each (l:List UInt8):(eachF (pieces l) 0 []).1=goodB l:=by
 rw [eachF_good];unfold goodB;congr 1;rw [decide_eq_decide];simp [pieces_ne]
theorem goodB_base (l:List UInt8) (h:goodB l=true):(eachF (pieces l) 0 []).2.2=lastP l:=eachF_base _ (pieces_ne l) 0 [] (by rw [goodB_each,h])
theorem nameB_ne {l:List UInt8} (h:nameB l=true):l≠[]:=by
 rintro rfl;simp [nameB,headB] at h
theorem mayB_good {l:List UInt8} (h:mayB l=true):goodB l=true:=by
 unfold mayB at h;simp only [Bool.and_eq_true] at h;exact h.1.2
theorem good_all {l:List UInt8} (h:goodB l=true):∀p∈pieces l,nameB p=true:=by
 unfold goodB at h;simp only [Bool.and_eq_true,List.all_eq_true] at h;exact h.2
theorem lastP_mem (l:List UInt8):lastP l∈pieces l:=List.getLast_mem _
theorem mayB_last {l:List UInt8} (h:mayB l=true):lastP l≠[]:=nameB_ne (good_all (mayB_good h) _ (lastP_mem l))
end Go.Proofs.YtahkcemdbfjilaaGreatDoor
