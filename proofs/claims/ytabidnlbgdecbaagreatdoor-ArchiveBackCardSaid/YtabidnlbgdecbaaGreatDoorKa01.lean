/- Several texts in one. Conditions: those said at each. -/
import Derived.Shelf.Strings.Builder1
import Derived.Shelf.Strings.Builder2
import Derived.Shelf.Strings.OnBuilder
import Derived.Shelf.Small.Bits
import Derived.Shelf.Small.Strs
import Derived.Shelf.Small.Wraps
import Derived.Shelf.Strings.BuilderF
import Derived.Shelf.Strconv.Itoa0
import Derived.Shelf.Strconv.Itoa1
import Derived.Shelf.LaysM
import Derived.Shelf.Strconv.Itoa2
import Derived.Shelf.Strconv.Itoa3
import Derived.Shelf.Strconv.Itoa4
import Derived.Shelf.Strconv.Clone
import Derived.Shelf.Strconv.SyntaxError
import Derived.Shelf.LaysC
import Derived.Shelf.Strconv.ToError
import Derived.Shelf.Strconv.Lower
import Derived.Shelf.Strconv.ParseUint10
import Derived.Shelf.Strconv.ParseUintEmpty
import Derived.Shelf.Strconv.ParseUint10b64
import Derived.Shelf.Strconv.ParseUint10b32
import Derived.Shelf.Strconv.ParseUint10b16
import Derived.Shelf.Strconv.ParseUint10b8
import Derived.Shelf.Strconv.ParseUint10At
import Derived.Ground.MpProg
import Derived.Shelf.Pu.ParseUintPublic10
import Derived.Shelf.Strings.Search1
import Derived.Shelf.Strings.Search2
import Derived.Shelf.Strings.Search3
import Derived.Shelf.Strings.Cut
import Derived.Shelf.Strings.Shaped
import Derived.Shelf.Sort.Plain
import Derived.Shelf.Strings.Prefix
import Derived.Shelf.Bits.Mul64
import Derived.Shelf.Strings.Repeat
import Derived.Shelf.Slices.In.SortNone
import Derived.Ground.SlgfProg
import Derived.Shelf.SlicesE.IndexFunc
import Derived.Shelf.SlicesE.DeleteFunc
import Derived.Test.YtabidnlbgdecbaaGreatDoorProg
import Derived.WalkKit
import Derived.WalkSpells
import Derived.WalkLawsBesides
import Derived.BigQuiet
import Derived.Deep.QuietTactic
import Derived.Deep.Draws
import Derived.ChangeAgain
import Derived.Lib.LaidTab
import Derived.WalkMore
import Derived.Lib.IndexMore
import Derived.Deep.DeepFit
import Derived.OneCell
import Derived.Lib.SmallJoins
set_option linter.unusedSimpArgs false
set_option linter.unusedVariables false
set_option maxRecDepth 100000
namespace Go.Proofs
open Go.Shelf
def Tryz.lays156_ren : Go.Shelf.Ren := ⟨fun | 156 => 37 | 165 => 77 | 166 => 78 | 169 => 79 | 240 => 121 | 241 => 122 | 276 => 150 | 277 => 151 | n => n, fun | 31 => 31 | 9 => 9 | 3 => 3 | 4 => 4 | 0 => 0 | 20 => 20 | 72 => 130 | 76 => 134 | 70 => 128 | 37 => 58 | 75 => 133 | 127 => 173 | 164 => 192 | 5 => 5 | 80 => 136 | n => n, fun | n => n⟩
theorem Tryz.lays156 : Go.Proofs.Lays.n156 Tryz.prog Tryz.lays156_ren := {
 mixed := by kernel_rfl
 f156 := Tryz.func37.trans (congrArg some (by kernel_rfl))
 f165 := Tryz.func77.trans (congrArg some (by kernel_rfl))
 f166 := Tryz.func78.trans (congrArg some (by kernel_rfl))
 f169 := Tryz.func79.trans (congrArg some (by kernel_rfl))
 f240 := Tryz.func121.trans (congrArg some (by kernel_rfl))
 f241 := Tryz.func122.trans (congrArg some (by kernel_rfl))
 f276 := Tryz.func150.trans (congrArg some (by kernel_rfl))
 f277 := Tryz.func151.trans (congrArg some (by kernel_rfl))
 t0 := Tryz.underlying0
 a0 := Tryz.isAgg0
 z0 := Tryz.sizeOf0
 v0 := Tryz.zeroValue0
 t3 := Tryz.underlying3
 a3 := Tryz.isAgg3
 z3 := Tryz.sizeOf3
 v3 := Tryz.zeroValue3
 t4 := Tryz.underlying4
 a4 := Tryz.isAgg4
 z4 := Tryz.sizeOf4
 v4 := Tryz.zeroValue4
 t9 := Tryz.underlying9
 a9 := Tryz.isAgg9
 z9 := Tryz.sizeOf9
 v9 := Tryz.zeroValue9
 t20 := Tryz.underlying20
 a20 := Tryz.isAgg20
 z20 := Tryz.sizeOf20
 v20 := Tryz.zeroValue20
 t31 := Tryz.underlying31
 a31 := Tryz.isAgg31
 z31 := Tryz.sizeOf31
 v31 := Tryz.zeroValue31
 t37 := Tryz.underlying58
 a37 := Tryz.isAgg58
 z37 := Tryz.sizeOf58
 v37 := Tryz.zeroValue58
 t70 := Tryz.underlying128
 a70 := Tryz.isAgg128
 z70 := Tryz.sizeOf128
 v70 := Tryz.zeroValue128
 t72 := Tryz.underlying130
 a72 := Tryz.isAgg130
 z72 := Tryz.sizeOf130
 v72 := Tryz.zeroValue130
 t75 := Tryz.underlying133
 a75 := Tryz.isAgg133
 z75 := Tryz.sizeOf133
 v75 := Tryz.zeroValue133
 t76 := Tryz.underlying134
 a76 := Tryz.isAgg134
 z76 := Tryz.sizeOf134
 v76 := Tryz.zeroValue134
 t127 := Tryz.underlying173
 a127 := Tryz.isAgg173
 z127 := Tryz.sizeOf173
 v127 := Tryz.zeroValue173
 t164 := Tryz.underlying192
 a164 := Tryz.isAgg192
 z164 := Tryz.sizeOf192
 v164 := Tryz.zeroValue192 }
theorem Tryz.Builder_Extra_156 : Builder.Extra Tryz.prog Tryz.lays156_ren := {
 sizeBuilder := by kernel_rfl
 liesBuilder := by kernel_rfl
 t5 := Tryz.underlying5
 a5 := Tryz.isAgg5
 z5 := Tryz.sizeOf5
 v5 := Tryz.zeroValue5
 infoByte := by kernel_rfl
 cellsByte := by kernel_rfl
 sizeByte := by kernel_rfl
 neB5 := by decide }
open Go.RowKit in
theorem Tryz.strings_Join_none (a : Option Addr) (c : Nat) (sep : ByteArray) (w : World) :
 Calls Tryz.prog 37 #[.slice a 0 c, .string sep] w fun e w' => e = .returned (.string ⟨#[]⟩) ∧ w' = w := Any.strings_Join_none Tryz.lays156 Tryz.Builder_Extra_156 a c sep w
open Go.RowKit in
theorem Tryz.strings_Join (bk o c : Nat) (xs : List ByteArray) (sep : ByteArray) (w : World) (hcells : ∀ (j : Nat) x, xs[j]? = some x → w.cell? ⟨bk, o + j, none⟩ = some (.string x)) (hbk : bk < w.heap.size) (hN : xs.length ≤ 140737488355328) (hcap : xs.length ≤ c) (hlen : (Lib.join (xs.map (·.data.toList)) sep.data.toList).length ≤ 140737488355328) :
 Calls Tryz.prog 37 #[.slice (some ⟨bk, o, none⟩) xs.length c, .string sep] w fun e w' => e = .returned (.string ⟨(Lib.join (xs.map (·.data.toList)) sep.data.toList).toArray⟩) ∧ Below w.heap.size w w' := Any.strings_Join Tryz.lays156 Tryz.Builder_Extra_156 bk o c xs sep w hcells hbk hN hcap hlen
def Tryz.lays106_ren : Go.Shelf.Ren := ⟨fun | 106 => 58 | 213 => 97 | 265 => 139 | n => n, fun | 9 => 9 | 3 => 3 | n => n, fun | n => n⟩
theorem Tryz.lays106 : Go.Proofs.Lays.n106 Tryz.prog Tryz.lays106_ren := {
 mixed := by kernel_rfl
 f106 := Tryz.func58.trans (congrArg some (by kernel_rfl))
 f213 := Tryz.func97.trans (congrArg some (by kernel_rfl))
 f265 := Tryz.func139.trans (congrArg some (by kernel_rfl))
 t3 := Tryz.underlying3
 a3 := Tryz.isAgg3
 z3 := Tryz.sizeOf3
 v3 := Tryz.zeroValue3
 t9 := Tryz.underlying9
 a9 := Tryz.isAgg9
 z9 := Tryz.sizeOf9
 v9 := Tryz.zeroValue9 }
open Go.RowKit in
theorem Tryz.strings_Compare (a b : ByteArray) (w : World) :
 Calls Tryz.prog 58 #[.string a, .string b] w fun e w' => e = .returned (.int .i64 (Lib.compareBytes a.data.toList b.data.toList)) ∧ w' = w := Any.strings_Compare Tryz.lays106 a b w
def Tryz.lays103_ren : Go.Shelf.Ren := ⟨fun | 103 => 113 | 210 => 147 | 206 => 164 | n => n, fun | 9 => 9 | 4 => 4 | 24 => 92 | 3 => 3 | n => n, fun | n => n⟩
theorem Tryz.lays103 : Go.Proofs.Lays.n103 Tryz.prog Tryz.lays103_ren := {
 mixed := by kernel_rfl
 f103 := Tryz.func113.trans (congrArg some (by kernel_rfl))
 f206 := Tryz.func164.trans (congrArg some (by kernel_rfl))
 f210 := Tryz.func147.trans (congrArg some (by kernel_rfl))
 t3 := Tryz.underlying3
 a3 := Tryz.isAgg3
 z3 := Tryz.sizeOf3
 v3 := Tryz.zeroValue3
 t4 := Tryz.underlying4
 a4 := Tryz.isAgg4
 z4 := Tryz.sizeOf4
 v4 := Tryz.zeroValue4
 t9 := Tryz.underlying9
 a9 := Tryz.isAgg9
 z9 := Tryz.sizeOf9
 v9 := Tryz.zeroValue9
 t24 := Tryz.underlying92
 a24 := Tryz.isAgg92
 z24 := Tryz.sizeOf92
 v24 := Tryz.zeroValue92 }
open Go.RowKit in
theorem Tryz.strings_CutPrefix (s p : ByteArray) (w : World) :
 Calls Tryz.prog 113 #[.string s, .string p] w fun e w' => e = .returned (.tuple #[.string ⟨(Lib.trimPrefix s.data.toList p.data.toList).toArray⟩, .bool (Lib.hasPrefix s.data.toList p.data.toList)]) ∧ w' = w := Any.strings_CutPrefix Tryz.lays103 s p w
def Tryz.laysM173_ren : Go.Shelf.Ren := ⟨fun | 173 => 130 | 246 => 153 | 283 => 167 | 284 => 168 | 285 => 169 | 286 => 170 | 129 => 108 | 317 => 182 | 318 => 183 | 319 => 184 | 320 => 185 | 337 => 188 | 338 => 189 | n => n, fun | 2 => 2 | 3 => 3 | 9 => 9 | 4 => 4 | 171 => 203 | 0 => 0 | 53 => 143 | 37 => 58 | 5 => 5 | 173 => 205 | 212 => 218 | 51 => 161 | 20 => 20 | 213 => 219 | 46 => 57 | 232 => 226 | 233 => 227 | n => n, fun | 17 => 1 | 18 => 4 | 19 => 5 | n => n⟩
theorem Tryz.laysM173 : Go.Proofs.LaysM.n173 Tryz.prog Tryz.laysM173_ren := {
 mixed := by kernel_rfl
 f129 := Tryz.func108.trans (congrArg some (by kernel_rfl))
 f173 := Tryz.func130.trans (congrArg some (by kernel_rfl))
 f246 := Tryz.func153.trans (congrArg some (by kernel_rfl))
 f283 := Tryz.func167.trans (congrArg some (by kernel_rfl))
 f284 := Tryz.func168.trans (congrArg some (by kernel_rfl))
 f285 := Tryz.func169.trans (congrArg some (by kernel_rfl))
 f286 := Tryz.func170.trans (congrArg some (by kernel_rfl))
 f317 := Tryz.func182.trans (congrArg some (by kernel_rfl))
 f318 := Tryz.func183.trans (congrArg some (by kernel_rfl))
 f319 := Tryz.func184.trans (congrArg some (by kernel_rfl))
 f320 := Tryz.func185.trans (congrArg some (by kernel_rfl))
 f337 := Tryz.func188.trans (congrArg some (by kernel_rfl))
 f338 := Tryz.func189.trans (congrArg some (by kernel_rfl))
 t0 := Tryz.underlying0
 a0 := Tryz.isAgg0
 z0 := Tryz.sizeOf0
 v0 := Tryz.zeroValue0
 t2 := Tryz.underlying2
 a2 := Tryz.isAgg2
 z2 := Tryz.sizeOf2
 v2 := Tryz.zeroValue2
 t3 := Tryz.underlying3
 a3 := Tryz.isAgg3
 z3 := Tryz.sizeOf3
 v3 := Tryz.zeroValue3
 t4 := Tryz.underlying4
 a4 := Tryz.isAgg4
 z4 := Tryz.sizeOf4
 v4 := Tryz.zeroValue4
 t5 := Tryz.underlying5
 a5 := Tryz.isAgg5
 z5 := Tryz.sizeOf5
 v5 := Tryz.zeroValue5
 t9 := Tryz.underlying9
 a9 := Tryz.isAgg9
 z9 := Tryz.sizeOf9
 v9 := Tryz.zeroValue9
 t20 := Tryz.underlying20
 a20 := Tryz.isAgg20
 z20 := Tryz.sizeOf20
 v20 := Tryz.zeroValue20
 t37 := Tryz.underlying58
 a37 := Tryz.isAgg58
 z37 := Tryz.sizeOf58
 v37 := Tryz.zeroValue58
 t46 := Tryz.underlying57
 a46 := Tryz.isAgg57
 z46 := Tryz.sizeOf57
 v46 := Tryz.zeroValue57
 t51 := Tryz.underlying161
 a51 := Tryz.isAgg161
 z51 := Tryz.sizeOf161
 v51 := Tryz.zeroValue161
 t53 := Tryz.underlying143
 a53 := Tryz.isAgg143
 z53 := Tryz.sizeOf143
 v53 := Tryz.zeroValue143
 t171 := Tryz.underlying203
 a171 := Tryz.isAgg203
 z171 := Tryz.sizeOf203
 v171 := Tryz.zeroValue203
 t173 := Tryz.underlying205
 a173 := Tryz.isAgg205
 z173 := Tryz.sizeOf205
 v173 := Tryz.zeroValue205
 t212 := Tryz.underlying218
 a212 := Tryz.isAgg218
 z212 := Tryz.sizeOf218
 v212 := Tryz.zeroValue218
 t213 := Tryz.underlying219
 a213 := Tryz.isAgg219
 z213 := Tryz.sizeOf219
 t232 := Tryz.underlying226
 a232 := Tryz.isAgg226
 z232 := Tryz.sizeOf226
 v232 := Tryz.zeroValue226
 t233 := Tryz.underlying227
 a233 := Tryz.isAgg227
 z233 := Tryz.sizeOf227
 v233 := Tryz.zeroValue227
 g17 := by kernel_rfl
 g18 := by kernel_rfl
 g19 := by kernel_rfl
 i0 := by kernel_rfl
 i2 := by kernel_rfl
 i3 := by kernel_rfl
 i4 := by kernel_rfl
 i5 := by kernel_rfl
 i9 := by kernel_rfl
 i20 := by kernel_rfl
 i37 := by kernel_rfl
 i46 := by kernel_rfl
 i51 := by kernel_rfl
 i53 := by kernel_rfl
 i171 := by kernel_rfl
 i173 := by kernel_rfl
 i212 := by kernel_rfl
 i232 := by kernel_rfl
 i233 := by kernel_rfl
 m17 := by kernel_rfl
 m18 := by kernel_rfl
 m19 := by kernel_rfl }
open Go.RowKit Go.Sort Go.Lib in
theorem Tryz.strconv_FormatInt_10 (n : Int) (h0 : -9223372036854775808 ≤ n) (h1 : n ≤ 9223372036854775807) (w : World) (htab : Lib.TabIs Tryz.prog w "internal/strconv.uint64pow10" .u64 Lib.pow10Tab) :
 Calls Tryz.prog 130 #[.int .i64 n, .int .i64 10] w fun e w' => e = .returned (.string ⟨(Lib.itoa n).toArray⟩) ∧ ∃ k os, w' = grow (w.drewN k) os := Any.strconv_FormatInt_10 Tryz.laysM173 n h0 h1 w htab
def Tryz.laysM316_ren : Go.Shelf.Ren := ⟨fun | 316 => 89 | n => n, fun | 9 => 9 | 3 => 3 | 4 => 4 | 37 => 58 | 0 => 0 | 127 => 173 | 5 => 5 | n => n, fun | n => n⟩
theorem Tryz.laysM316 : Go.Proofs.LaysM.n316 Tryz.prog Tryz.laysM316_ren := {
 mixed := by kernel_rfl
 f316 := Tryz.func89.trans (congrArg some (by kernel_rfl))
 t0 := Tryz.underlying0
 a0 := Tryz.isAgg0
 z0 := Tryz.sizeOf0
 v0 := Tryz.zeroValue0
 t3 := Tryz.underlying3
 a3 := Tryz.isAgg3
 z3 := Tryz.sizeOf3
 v3 := Tryz.zeroValue3
 t4 := Tryz.underlying4
 a4 := Tryz.isAgg4
 z4 := Tryz.sizeOf4
 v4 := Tryz.zeroValue4
 t9 := Tryz.underlying9
 a9 := Tryz.isAgg9
 z9 := Tryz.sizeOf9
 v9 := Tryz.zeroValue9
 t37 := Tryz.underlying58
 a37 := Tryz.isAgg58
 z37 := Tryz.sizeOf58
 v37 := Tryz.zeroValue58
 t127 := Tryz.underlying173
 a127 := Tryz.isAgg173
 z127 := Tryz.sizeOf173
 v127 := Tryz.zeroValue173
 t5 := Tryz.underlying5
 a5 := Tryz.isAgg5
 z5 := Tryz.sizeOf5
 v5 := Tryz.zeroValue5
 i0 := by kernel_rfl
 i3 := by kernel_rfl
 i4 := by kernel_rfl
 i5 := by kernel_rfl
 i9 := by kernel_rfl
 i37 := by kernel_rfl
 i127 := by kernel_rfl }
open Go.RowKit in
theorem Tryz.stringslite_Clone (s : ByteArray) (w : World) (hlim : s.size ≤ 281474976710656) :
 Calls Tryz.prog 89 #[.string s] w fun e w' => e = .returned (.string s) ∧ Below w.heap.size w w' := Any.stringslite_Clone Tryz.laysM316 s w hlim
def Tryz.laysC245_ren : Go.Shelf.Ren := ⟨fun | 245 => 166 | 279 => 178 | 280 => 179 | 281 => 180 | 282 => 181 | 316 => 89 | 171 => 187 | 205 => 186 | 243 => 190 | 246 => 153 | 283 => 167 | 284 => 168 | 285 => 169 | 286 => 170 | 129 => 108 | 317 => 182 | 318 => 183 | 319 => 184 | 320 => 185 | 337 => 188 | 338 => 189 | n => n, fun | 9 => 9 | 3 => 3 | 75 => 133 | 167 => 212 | 4 => 4 | 168 => 214 | 210 => 221 | 37 => 58 | 0 => 0 | 127 => 173 | 145 => 225 | 143 => 223 | 2 => 2 | 171 => 203 | 53 => 143 | 5 => 5 | 173 => 205 | 212 => 218 | 51 => 161 | 20 => 20 | 213 => 219 | 46 => 57 | 232 => 226 | 233 => 227 | 80 => 136 | n => n, fun | 15 => 2 | 16 => 3 | 17 => 1 | 18 => 4 | 19 => 5 | n => n⟩
theorem Tryz.laysC245 : Go.Proofs.LaysC.n245 Tryz.prog Tryz.laysC245_ren := {
 mixed := by kernel_rfl
 f129 := Tryz.func108.trans (congrArg some (by kernel_rfl))
 f171 := Tryz.func187.trans (congrArg some (by kernel_rfl))
 f205 := Tryz.func186.trans (congrArg some (by kernel_rfl))
 f243 := Tryz.func190.trans (congrArg some (by kernel_rfl))
 f245 := Tryz.func166.trans (congrArg some (by kernel_rfl))
 f246 := Tryz.func153.trans (congrArg some (by kernel_rfl))
 f279 := Tryz.func178.trans (congrArg some (by kernel_rfl))
 f280 := Tryz.func179.trans (congrArg some (by kernel_rfl))
 f281 := Tryz.func180.trans (congrArg some (by kernel_rfl))
 f282 := Tryz.func181.trans (congrArg some (by kernel_rfl))
 f283 := Tryz.func167.trans (congrArg some (by kernel_rfl))
 f284 := Tryz.func168.trans (congrArg some (by kernel_rfl))
 f285 := Tryz.func169.trans (congrArg some (by kernel_rfl))
 f286 := Tryz.func170.trans (congrArg some (by kernel_rfl))
 f316 := Tryz.func89.trans (congrArg some (by kernel_rfl))
 f317 := Tryz.func182.trans (congrArg some (by kernel_rfl))
 f318 := Tryz.func183.trans (congrArg some (by kernel_rfl))
 f319 := Tryz.func184.trans (congrArg some (by kernel_rfl))
 f320 := Tryz.func185.trans (congrArg some (by kernel_rfl))
 f337 := Tryz.func188.trans (congrArg some (by kernel_rfl))
 f338 := Tryz.func189.trans (congrArg some (by kernel_rfl))
 t0 := Tryz.underlying0
 a0 := Tryz.isAgg0
 z0 := Tryz.sizeOf0
 v0 := Tryz.zeroValue0
 t2 := Tryz.underlying2
 a2 := Tryz.isAgg2
 z2 := Tryz.sizeOf2
 v2 := Tryz.zeroValue2
 t3 := Tryz.underlying3
 a3 := Tryz.isAgg3
 z3 := Tryz.sizeOf3
 v3 := Tryz.zeroValue3
 t4 := Tryz.underlying4
 a4 := Tryz.isAgg4
 z4 := Tryz.sizeOf4
 v4 := Tryz.zeroValue4
 t5 := Tryz.underlying5
 a5 := Tryz.isAgg5
 z5 := Tryz.sizeOf5
 v5 := Tryz.zeroValue5
 t9 := Tryz.underlying9
 a9 := Tryz.isAgg9
 z9 := Tryz.sizeOf9
 v9 := Tryz.zeroValue9
 t20 := Tryz.underlying20
 a20 := Tryz.isAgg20
 z20 := Tryz.sizeOf20
 v20 := Tryz.zeroValue20
 t37 := Tryz.underlying58
 a37 := Tryz.isAgg58
 z37 := Tryz.sizeOf58
 v37 := Tryz.zeroValue58
 t46 := Tryz.underlying57
 a46 := Tryz.isAgg57
 z46 := Tryz.sizeOf57
 v46 := Tryz.zeroValue57
 t51 := Tryz.underlying161
 a51 := Tryz.isAgg161
 z51 := Tryz.sizeOf161
 v51 := Tryz.zeroValue161
 t53 := Tryz.underlying143
 a53 := Tryz.isAgg143
 z53 := Tryz.sizeOf143
 v53 := Tryz.zeroValue143
 t75 := Tryz.underlying133
 a75 := Tryz.isAgg133
 z75 := Tryz.sizeOf133
 v75 := Tryz.zeroValue133
 t127 := Tryz.underlying173
 a127 := Tryz.isAgg173
 z127 := Tryz.sizeOf173
 v127 := Tryz.zeroValue173
 t143 := Tryz.underlying223
 a143 := Tryz.isAgg223
 z143 := Tryz.sizeOf223
 v143 := Tryz.zeroValue223
 t145 := Tryz.underlying225
 a145 := Tryz.isAgg225
 z145 := Tryz.sizeOf225
 v145 := Tryz.zeroValue225
 t167 := Tryz.underlying212
 a167 := Tryz.isAgg212
 z167 := Tryz.sizeOf212
 v167 := Tryz.zeroValue212
 t168 := Tryz.underlying214
 a168 := Tryz.isAgg214
 z168 := Tryz.sizeOf214
 v168 := Tryz.zeroValue214
 t171 := Tryz.underlying203
 a171 := Tryz.isAgg203
 z171 := Tryz.sizeOf203
 v171 := Tryz.zeroValue203
 t173 := Tryz.underlying205
 a173 := Tryz.isAgg205
 z173 := Tryz.sizeOf205
 v173 := Tryz.zeroValue205
 t210 := Tryz.underlying221
 a210 := Tryz.isAgg221
 z210 := Tryz.sizeOf221
 v210 := Tryz.zeroValue221
 t212 := Tryz.underlying218
 a212 := Tryz.isAgg218
 z212 := Tryz.sizeOf218
 v212 := Tryz.zeroValue218
 t213 := Tryz.underlying219
 a213 := Tryz.isAgg219
 z213 := Tryz.sizeOf219
 t232 := Tryz.underlying226
 a232 := Tryz.isAgg226
 z232 := Tryz.sizeOf226
 v232 := Tryz.zeroValue226
 t233 := Tryz.underlying227
 a233 := Tryz.isAgg227
 z233 := Tryz.sizeOf227
 v233 := Tryz.zeroValue227
 g15 := by kernel_rfl
 g16 := by kernel_rfl
 g17 := by kernel_rfl
 g18 := by kernel_rfl
 g19 := by kernel_rfl
 t80 := Tryz.underlying136
 a80 := Tryz.isAgg136
 z80 := Tryz.sizeOf136
 v80 := Tryz.zeroValue136
 i0 := by kernel_rfl
 i2 := by kernel_rfl
 i3 := by kernel_rfl
 i4 := by kernel_rfl
 i5 := by kernel_rfl
 i9 := by kernel_rfl
 i20 := by kernel_rfl
 i37 := by kernel_rfl
 i46 := by kernel_rfl
 i51 := by kernel_rfl
 i53 := by kernel_rfl
 i75 := by kernel_rfl
 i80 := by kernel_rfl
 i127 := by kernel_rfl
 i143 := by kernel_rfl
 i145 := by kernel_rfl
 i167 := by kernel_rfl
 i168 := by kernel_rfl
 i171 := by kernel_rfl
 i173 := by kernel_rfl
 i210 := by kernel_rfl
 i212 := by kernel_rfl
 i232 := by kernel_rfl
 i233 := by kernel_rfl
 m15 := by kernel_rfl
 m16 := by kernel_rfl
 m17 := by kernel_rfl
 m18 := by kernel_rfl
 m19 := by kernel_rfl
 c0 := by kernel_rfl
 c2 := by kernel_rfl
 c3 := by kernel_rfl
 c4 := by kernel_rfl
 c5 := by kernel_rfl
 c9 := by kernel_rfl
 c20 := by kernel_rfl
 c37 := by kernel_rfl
 c46 := by kernel_rfl
 c51 := by kernel_rfl
 c53 := by kernel_rfl
 c75 := by kernel_rfl
 c80 := by kernel_rfl
 c127 := by kernel_rfl
 c143 := by kernel_rfl
 c145 := by kernel_rfl
 c167 := by kernel_rfl
 c168 := by kernel_rfl
 c171 := by kernel_rfl
 c173 := by kernel_rfl
 c210 := by kernel_rfl
 c212 := by kernel_rfl
 c213 := by kernel_rfl
 c232 := by kernel_rfl
 c233 := by kernel_rfl }
open Go.RowKit in
theorem Tryz.strconv_toError_syntax (fn s : ByteArray) (base bits : Int) (ev : Value) (w : World) (hlim : s.size ≤ 281474976710656) (hv : w.cell? ⟨2, 0, none⟩ = some ev) (hev : ev = .nilIface ∨ ∃ te pe, ev = .iface te pe) :
 Calls Tryz.prog 166 #[.string fn, .string s, .int .i64 base, .int .i64 bits, .iface 212 (.int .i64 2)] w fun e w' => ∃ N, e = .returned (.iface 214 (.pointer (some ⟨N, 0, none⟩))) ∧ w.heap.size ≤ N ∧ w'.heap[N]? = some (.cells #[.string fn, .string s, ev] 221 (0, 0)) ∧ Below w.heap.size w w' := Any.strconv_toError_syntax Tryz.laysC245 fn s base bits ev w hlim hv hev
def Tryz.lays321_ren : Go.Shelf.Ren := ⟨fun | 321 => 176 | n => n, fun | 5 => 5 | n => n, fun | n => n⟩
theorem Tryz.lays321 : Go.Proofs.Lays.n321 Tryz.prog Tryz.lays321_ren := {
 mixed := by kernel_rfl
 f321 := Tryz.func176.trans (congrArg some (by kernel_rfl))
 t5 := Tryz.underlying5
 a5 := Tryz.isAgg5
 z5 := Tryz.sizeOf5
 v5 := Tryz.zeroValue5 }
open Go.RowKit in
theorem Tryz.internal_strconv_lower (c : Int) (w : World) :
 Calls Tryz.prog 176 #[.int .u8 c] w fun e w' => e = .returned (.int .u8 (bits .or .u8 c 32)) ∧ w' = w := Any.internal_strconv_lower Tryz.lays321 c w
def Tryz.lays144_ren : Go.Shelf.Ren := ⟨fun | 144 => 69 | 143 => 111 | 219 => 146 | 217 => 160 | 225 => 161 | 224 => 162 | 267 => 163 | 266 => 174 | 314 => 175 | n => n, fun | 9 => 9 | 4 => 4 | 3 => 3 | 5 => 5 | 46 => 57 | 146 => 207 | 51 => 161 | n => n, fun | 1 => 0 | n => n⟩
theorem Tryz.lays144 : Go.Proofs.Lays.n144 Tryz.prog Tryz.lays144_ren := {
 mixed := by kernel_rfl
 f143 := Tryz.func111.trans (congrArg some (by kernel_rfl))
 f144 := Tryz.func69.trans (congrArg some (by kernel_rfl))
 f217 := Tryz.func160.trans (congrArg some (by kernel_rfl))
 f219 := Tryz.func146.trans (congrArg some (by kernel_rfl))
 f224 := Tryz.func162.trans (congrArg some (by kernel_rfl))
 f225 := Tryz.func161.trans (congrArg some (by kernel_rfl))
 f266 := Tryz.func174.trans (congrArg some (by kernel_rfl))
 f267 := Tryz.func163.trans (congrArg some (by kernel_rfl))
 f314 := Tryz.func175.trans (congrArg some (by kernel_rfl))
 t3 := Tryz.underlying3
 a3 := Tryz.isAgg3
 z3 := Tryz.sizeOf3
 v3 := Tryz.zeroValue3
 t4 := Tryz.underlying4
 a4 := Tryz.isAgg4
 z4 := Tryz.sizeOf4
 v4 := Tryz.zeroValue4
 t5 := Tryz.underlying5
 a5 := Tryz.isAgg5
 z5 := Tryz.sizeOf5
 v5 := Tryz.zeroValue5
 t9 := Tryz.underlying9
 a9 := Tryz.isAgg9
 z9 := Tryz.sizeOf9
 v9 := Tryz.zeroValue9
 t46 := Tryz.underlying57
 a46 := Tryz.isAgg57
 z46 := Tryz.sizeOf57
 v46 := Tryz.zeroValue57
 t51 := Tryz.underlying161
 a51 := Tryz.isAgg161
 z51 := Tryz.sizeOf161
 v51 := Tryz.zeroValue161
 t146 := Tryz.underlying207
 a146 := Tryz.isAgg207
 z146 := Tryz.sizeOf207
 v146 := Tryz.zeroValue207
 g1 := by kernel_rfl }
open Go.RowKit Go.Lib in
theorem Tryz.strings_Contains_one (s : ByteArray) (c : UInt8) (w : World) :
 Calls Tryz.prog 69 #[.string s, .string ⟨#[c]⟩] w fun e w' => e = .returned (.bool (decide (0 ≤ Lib.indexByte s.data.toList c))) ∧ w' = w := Any.strings_Contains_one Tryz.lays144 s c w
def Tryz.laysM145_ren : Go.Shelf.Ren := ⟨fun | 145 => 114 | 220 => 148 | 219 => 146 | 217 => 160 | 225 => 161 | 224 => 162 | 267 => 163 | 266 => 174 | 314 => 175 | n => n, fun | 9 => 9 | 4 => 4 | 59 => 165 | 3 => 3 | 5 => 5 | 46 => 57 | 146 => 207 | 51 => 161 | n => n, fun | 1 => 0 | n => n⟩
theorem Tryz.laysM145 : Go.Proofs.LaysM.n145 Tryz.prog Tryz.laysM145_ren := {
 mixed := by kernel_rfl
 f145 := Tryz.func114.trans (congrArg some (by kernel_rfl))
 f217 := Tryz.func160.trans (congrArg some (by kernel_rfl))
 f219 := Tryz.func146.trans (congrArg some (by kernel_rfl))
 f220 := Tryz.func148.trans (congrArg some (by kernel_rfl))
 f224 := Tryz.func162.trans (congrArg some (by kernel_rfl))
 f225 := Tryz.func161.trans (congrArg some (by kernel_rfl))
 f266 := Tryz.func174.trans (congrArg some (by kernel_rfl))
 f267 := Tryz.func163.trans (congrArg some (by kernel_rfl))
 f314 := Tryz.func175.trans (congrArg some (by kernel_rfl))
 t3 := Tryz.underlying3
 a3 := Tryz.isAgg3
 z3 := Tryz.sizeOf3
 v3 := Tryz.zeroValue3
 t4 := Tryz.underlying4
 a4 := Tryz.isAgg4
 z4 := Tryz.sizeOf4
 v4 := Tryz.zeroValue4
 t5 := Tryz.underlying5
 a5 := Tryz.isAgg5
 z5 := Tryz.sizeOf5
 v5 := Tryz.zeroValue5
 t9 := Tryz.underlying9
 a9 := Tryz.isAgg9
 z9 := Tryz.sizeOf9
 v9 := Tryz.zeroValue9
 t46 := Tryz.underlying57
 a46 := Tryz.isAgg57
 z46 := Tryz.sizeOf57
 v46 := Tryz.zeroValue57
 t51 := Tryz.underlying161
 a51 := Tryz.isAgg161
 z51 := Tryz.sizeOf161
 v51 := Tryz.zeroValue161
 t59 := Tryz.underlying165
 a59 := Tryz.isAgg165
 z59 := Tryz.sizeOf165
 v59 := Tryz.zeroValue165
 t146 := Tryz.underlying207
 a146 := Tryz.isAgg207
 z146 := Tryz.sizeOf207
 v146 := Tryz.zeroValue207
 g1 := by kernel_rfl
 i3 := by kernel_rfl
 i4 := by kernel_rfl
 i5 := by kernel_rfl
 i9 := by kernel_rfl
 i46 := by kernel_rfl
 i51 := by kernel_rfl
 i59 := by kernel_rfl
 i146 := by kernel_rfl
 m1 := by kernel_rfl
 s1_3 := fun w h => Go.Proofs.cell_of_shapedOpen_int (zero := #[.int .i64 0]) (t := 3) h (of_decide_eq_true (by kernel_rfl)) (by kernel_rfl) rfl (by kernel_rfl) (by kernel_rfl) Tryz.underlying3 }
open Go.RowKit Go.Lib in
theorem Tryz.strings_Cut_shaped (s sep : ByteArray) (w : World) (h : w.ShapedOpen Tryz.prog) (hs : s.size < 4294967281) :
 Calls Tryz.prog 114 #[.string s, .string sep] w fun e w' => e = .returned (.tuple #[.string ⟨(Lib.cut s.data.toList sep.data.toList).1.toArray⟩, .string ⟨(Lib.cut s.data.toList sep.data.toList).2.1.toArray⟩, .bool (Lib.cut s.data.toList sep.data.toList).2.2]) ∧ ∃ n, w' = w.drewN n := Any.strings_Cut_shaped Tryz.laysM145 s sep w h hs
def Tryz.lays190_ren : Go.Shelf.Ren := ⟨fun | 190 => 30 | 125 => 64 | 258 => 63 | 128 => 107 | 129 => 108 | 302 => 98 | 303 => 99 | 304 => 100 | 305 => 101 | 306 => 102 | 307 => 103 | 308 => 104 | 309 => 105 | 310 => 106 | 333 => 140 | 329 => 141 | 330 => 142 | 334 => 143 | 335 => 144 | 336 => 145 | 344 => 159 | n => n, fun | 31 => 31 | 9 => 9 | 3 => 3 | 46 => 57 | 0 => 0 | 51 => 161 | 53 => 143 | 4 => 4 | 183 => 154 | 182 => 153 | 131 => 158 | 5 => 5 | 218 => 184 | 222 => 188 | 228 => 197 | 229 => 198 | n => n, fun | n => n⟩
theorem Tryz.lays190 : Go.Proofs.Lays.n190 Tryz.prog Tryz.lays190_ren := {
 mixed := by kernel_rfl
 f125 := Tryz.func64.trans (congrArg some (by kernel_rfl))
 f128 := Tryz.func107.trans (congrArg some (by kernel_rfl))
 f129 := Tryz.func108.trans (congrArg some (by kernel_rfl))
 f190 := Tryz.func30.trans (congrArg some (by kernel_rfl))
 f258 := Tryz.func63.trans (congrArg some (by kernel_rfl))
 f302 := Tryz.func98.trans (congrArg some (by kernel_rfl))
 f303 := Tryz.func99.trans (congrArg some (by kernel_rfl))
 f304 := Tryz.func100.trans (congrArg some (by kernel_rfl))
 f305 := Tryz.func101.trans (congrArg some (by kernel_rfl))
 f306 := Tryz.func102.trans (congrArg some (by kernel_rfl))
 f307 := Tryz.func103.trans (congrArg some (by kernel_rfl))
 f308 := Tryz.func104.trans (congrArg some (by kernel_rfl))
 f309 := Tryz.func105.trans (congrArg some (by kernel_rfl))
 f310 := Tryz.func106.trans (congrArg some (by kernel_rfl))
 f329 := Tryz.func141.trans (congrArg some (by kernel_rfl))
 f330 := Tryz.func142.trans (congrArg some (by kernel_rfl))
 f333 := Tryz.func140.trans (congrArg some (by kernel_rfl))
 f334 := Tryz.func143.trans (congrArg some (by kernel_rfl))
 f335 := Tryz.func144.trans (congrArg some (by kernel_rfl))
 f336 := Tryz.func145.trans (congrArg some (by kernel_rfl))
 f344 := Tryz.func159.trans (congrArg some (by kernel_rfl))
 t0 := Tryz.underlying0
 a0 := Tryz.isAgg0
 z0 := Tryz.sizeOf0
 v0 := Tryz.zeroValue0
 t3 := Tryz.underlying3
 a3 := Tryz.isAgg3
 z3 := Tryz.sizeOf3
 v3 := Tryz.zeroValue3
 t4 := Tryz.underlying4
 a4 := Tryz.isAgg4
 z4 := Tryz.sizeOf4
 v4 := Tryz.zeroValue4
 t5 := Tryz.underlying5
 a5 := Tryz.isAgg5
 z5 := Tryz.sizeOf5
 v5 := Tryz.zeroValue5
 t9 := Tryz.underlying9
 a9 := Tryz.isAgg9
 z9 := Tryz.sizeOf9
 v9 := Tryz.zeroValue9
 t31 := Tryz.underlying31
 a31 := Tryz.isAgg31
 z31 := Tryz.sizeOf31
 v31 := Tryz.zeroValue31
 t46 := Tryz.underlying57
 a46 := Tryz.isAgg57
 z46 := Tryz.sizeOf57
 v46 := Tryz.zeroValue57
 t51 := Tryz.underlying161
 a51 := Tryz.isAgg161
 z51 := Tryz.sizeOf161
 v51 := Tryz.zeroValue161
 t53 := Tryz.underlying143
 a53 := Tryz.isAgg143
 z53 := Tryz.sizeOf143
 v53 := Tryz.zeroValue143
 t131 := Tryz.underlying158
 a131 := Tryz.isAgg158
 z131 := Tryz.sizeOf158
 v131 := Tryz.zeroValue158
 t182 := Tryz.underlying153
 a182 := Tryz.isAgg153
 z182 := Tryz.sizeOf153
 v182 := Tryz.zeroValue153
 t183 := Tryz.underlying154
 a183 := Tryz.isAgg154
 z183 := Tryz.sizeOf154
 v183 := Tryz.zeroValue154
 t218 := Tryz.underlying184
 a218 := Tryz.isAgg184
 z218 := Tryz.sizeOf184
 v218 := Tryz.zeroValue184
 t222 := Tryz.underlying188
 a222 := Tryz.isAgg188
 z222 := Tryz.sizeOf188
 v222 := Tryz.zeroValue188
 t228 := Tryz.underlying197
 a228 := Tryz.isAgg197
 z228 := Tryz.sizeOf197
 v228 := Tryz.zeroValue197
 t229 := Tryz.underlying198
 a229 := Tryz.isAgg198
 z229 := Tryz.sizeOf198
 v229 := Tryz.zeroValue198 }
open Go.Sort Go.RowKit in
theorem Tryz.slices_Sort_string (blk off cap : Nat) (ss : List (List UInt8)) (w : World) (hH : Holds encStr w blk off ss.toArray) (hblk : blk < w.heap.size) (hsz : ss.length < 4611686018427387904) :
 Calls Tryz.prog 30 #[.slice (some ⟨blk, off, none⟩) ss.length cap] w fun e w' =>
  e = .returned (.tuple #[]) ∧ ∃ n os, w' = grow (putRow encStr (Sort.ahead w n) blk off (ss.mergeSort fun x y => decide (x ≤ y)).toArray) os := Any.slices_Sort_string Tryz.lays190 blk off cap ss w hH hblk hsz
def Tryz.lays105_ren : Go.Shelf.Ren := ⟨fun | 105 => 131 | 212 => 154 | 99 => 155 | 165 => 77 | 166 => 78 | 170 => 156 | 169 => 79 | 263 => 171 | 264 => 172 | 206 => 164 | 240 => 121 | 241 => 122 | 276 => 150 | 277 => 151 | n => n, fun | 9 => 9 | 3 => 3 | 4 => 4 | 20 => 20 | 0 => 0 | 46 => 57 | 109 => 194 | 5 => 5 | 72 => 130 | 76 => 134 | 51 => 161 | 146 => 207 | 53 => 143 | 148 => 209 | 70 => 128 | 37 => 58 | 75 => 133 | 127 => 173 | 164 => 192 | 80 => 136 | n => n, fun | n => n⟩
theorem Tryz.lays105 : Go.Proofs.Lays.n105 Tryz.prog Tryz.lays105_ren := {
 mixed := by kernel_rfl
 f99 := Tryz.func155.trans (congrArg some (by kernel_rfl))
 f105 := Tryz.func131.trans (congrArg some (by kernel_rfl))
 f165 := Tryz.func77.trans (congrArg some (by kernel_rfl))
 f166 := Tryz.func78.trans (congrArg some (by kernel_rfl))
 f169 := Tryz.func79.trans (congrArg some (by kernel_rfl))
 f170 := Tryz.func156.trans (congrArg some (by kernel_rfl))
 f206 := Tryz.func164.trans (congrArg some (by kernel_rfl))
 f212 := Tryz.func154.trans (congrArg some (by kernel_rfl))
 f240 := Tryz.func121.trans (congrArg some (by kernel_rfl))
 f241 := Tryz.func122.trans (congrArg some (by kernel_rfl))
 f263 := Tryz.func171.trans (congrArg some (by kernel_rfl))
 f264 := Tryz.func172.trans (congrArg some (by kernel_rfl))
 f276 := Tryz.func150.trans (congrArg some (by kernel_rfl))
 f277 := Tryz.func151.trans (congrArg some (by kernel_rfl))
 t0 := Tryz.underlying0
 a0 := Tryz.isAgg0
 z0 := Tryz.sizeOf0
 v0 := Tryz.zeroValue0
 t3 := Tryz.underlying3
 a3 := Tryz.isAgg3
 z3 := Tryz.sizeOf3
 v3 := Tryz.zeroValue3
 t4 := Tryz.underlying4
 a4 := Tryz.isAgg4
 z4 := Tryz.sizeOf4
 v4 := Tryz.zeroValue4
 t5 := Tryz.underlying5
 a5 := Tryz.isAgg5
 z5 := Tryz.sizeOf5
 v5 := Tryz.zeroValue5
 t9 := Tryz.underlying9
 a9 := Tryz.isAgg9
 z9 := Tryz.sizeOf9
 v9 := Tryz.zeroValue9
 t20 := Tryz.underlying20
 a20 := Tryz.isAgg20
 z20 := Tryz.sizeOf20
 v20 := Tryz.zeroValue20
 t37 := Tryz.underlying58
 a37 := Tryz.isAgg58
 z37 := Tryz.sizeOf58
 v37 := Tryz.zeroValue58
 t46 := Tryz.underlying57
 a46 := Tryz.isAgg57
 z46 := Tryz.sizeOf57
 v46 := Tryz.zeroValue57
 t51 := Tryz.underlying161
 a51 := Tryz.isAgg161
 z51 := Tryz.sizeOf161
 v51 := Tryz.zeroValue161
 t53 := Tryz.underlying143
 a53 := Tryz.isAgg143
 z53 := Tryz.sizeOf143
 v53 := Tryz.zeroValue143
 t70 := Tryz.underlying128
 a70 := Tryz.isAgg128
 z70 := Tryz.sizeOf128
 v70 := Tryz.zeroValue128
 t72 := Tryz.underlying130
 a72 := Tryz.isAgg130
 z72 := Tryz.sizeOf130
 v72 := Tryz.zeroValue130
 t75 := Tryz.underlying133
 a75 := Tryz.isAgg133
 z75 := Tryz.sizeOf133
 v75 := Tryz.zeroValue133
 t76 := Tryz.underlying134
 a76 := Tryz.isAgg134
 z76 := Tryz.sizeOf134
 v76 := Tryz.zeroValue134
 t109 := Tryz.underlying194
 a109 := Tryz.isAgg194
 z109 := Tryz.sizeOf194
 v109 := Tryz.zeroValue194
 t127 := Tryz.underlying173
 a127 := Tryz.isAgg173
 z127 := Tryz.sizeOf173
 v127 := Tryz.zeroValue173
 t146 := Tryz.underlying207
 a146 := Tryz.isAgg207
 z146 := Tryz.sizeOf207
 v146 := Tryz.zeroValue207
 t148 := Tryz.underlying209
 a148 := Tryz.isAgg209
 z148 := Tryz.sizeOf209
 v148 := Tryz.zeroValue209
 t164 := Tryz.underlying192
 a164 := Tryz.isAgg192
 z164 := Tryz.sizeOf192
 v164 := Tryz.zeroValue192 }
theorem Tryz.Builder_Extra_105 : Builder.Extra Tryz.prog Tryz.lays105_ren := {
 sizeBuilder := by kernel_rfl
 liesBuilder := by kernel_rfl
 t5 := Tryz.underlying5
 a5 := Tryz.isAgg5
 z5 := Tryz.sizeOf5
 v5 := Tryz.zeroValue5
 infoByte := by kernel_rfl
 cellsByte := by kernel_rfl
 sizeByte := by kernel_rfl
 neB5 := by decide }
open Go.RowKit Go.Lib in
theorem Tryz.strings_Repeat (s : ByteArray) (c : Nat) (w : World) (hc : c ≤ 9223372036854775807) (hlen : s.size * c ≤ 140737488355328) :
 Calls Tryz.prog 131 #[.string s, .int .i64 c] w fun e w' => e = .returned (.string ⟨(Lib.repeatL s.data.toList c).toArray⟩) ∧ Below w.heap.size w w' := Any.strings_Repeat Tryz.lays105 Tryz.Builder_Extra_105 s c w hc hlen
open Go.RowKit Go.Sort in
theorem Tryz.slices_Sort_string_none (p : Option Addr) (cap : Nat) (w : World) :
 Calls Tryz.prog 30 #[.slice p 0 cap] w fun e w' => e = .returned (.tuple #[]) ∧ w' = w := Any.slices_Sort_string_none Tryz.lays190 p cap w
def Tryz.laysSlH6_f112_ren : Go.Shelf.Ren := ⟨fun | 6 => 112 | n => n, fun | 22 => 31 | 23 => 9 | 25 => 82 | 3 => 3 | 0 => 0 | 4 => 4 | n => n, fun | n => n⟩
theorem Tryz.laysSlH6_f112 : Go.Proofs.SlLaysH.n6 Tryz.prog Tryz.laysSlH6_f112_ren := {
 mixed := by kernel_rfl
 f6 := ⟨Tryz.f112.name, by decide, Tryz.func112.trans (congrArg some (by kernel_rfl))⟩
 t0 := Tryz.underlying0
 a0 := Tryz.isAgg0
 z0 := Tryz.sizeOf0
 v0 := Tryz.zeroValue0
 t3 := Tryz.underlying3
 a3 := Tryz.isAgg3
 z3 := Tryz.sizeOf3
 v3 := Tryz.zeroValue3
 t4 := Tryz.underlying4
 a4 := Tryz.isAgg4
 z4 := Tryz.sizeOf4
 v4 := Tryz.zeroValue4
 t22 := Tryz.underlying31
 a22 := Tryz.isAgg31
 z22 := Tryz.sizeOf31
 v22 := Tryz.zeroValue31
 a23 := Tryz.isAgg9
 z23 := Tryz.sizeOf9
 t25 := Tryz.underlying82
 a25 := Tryz.isAgg82
 z25 := Tryz.sizeOf82
 v25 := Tryz.zeroValue82 }
open Go.RowKit Go.Lib in
theorem Tryz.slices_IndexFunc_empty {α : Type} [Inhabited α] (a : Option Addr) (c : Nat) (fv : Value) (w : World) :
 Calls Tryz.prog 112 #[.slice a 0 c, fv] w fun e w' => e = .returned (.int .i64 (-1)) ∧ w' = w := AnyE.slices_IndexFunc_empty Tryz.laysSlH6_f112 a c fv w
def Tryz.laysSlH10_f70_ren : Go.Shelf.Ren := ⟨fun | 10 => 70 | 6 => 112 | n => n, fun | 22 => 31 | 23 => 9 | 25 => 82 | 3 => 3 | 4 => 4 | 0 => 0 | n => n, fun | n => n⟩
theorem Tryz.laysSlH10_f70 : Go.Proofs.SlLaysH.n10 Tryz.prog Tryz.laysSlH10_f70_ren := {
 mixed := by kernel_rfl
 f6 := ⟨Tryz.f112.name, by decide, Tryz.func112.trans (congrArg some (by kernel_rfl))⟩
 f10 := ⟨Tryz.f70.name, by decide, Tryz.func70.trans (congrArg some (by kernel_rfl))⟩
 t0 := Tryz.underlying0
 a0 := Tryz.isAgg0
 z0 := Tryz.sizeOf0
 v0 := Tryz.zeroValue0
 t3 := Tryz.underlying3
 a3 := Tryz.isAgg3
 z3 := Tryz.sizeOf3
 v3 := Tryz.zeroValue3
 t4 := Tryz.underlying4
 a4 := Tryz.isAgg4
 z4 := Tryz.sizeOf4
 v4 := Tryz.zeroValue4
 t22 := Tryz.underlying31
 a22 := Tryz.isAgg31
 z22 := Tryz.sizeOf31
 v22 := Tryz.zeroValue31
 a23 := Tryz.isAgg9
 z23 := Tryz.sizeOf9
 t25 := Tryz.underlying82
 a25 := Tryz.isAgg82
 z25 := Tryz.sizeOf82
 v25 := Tryz.zeroValue82 }
open Go.RowKit Go.Lib Go.Sort in
theorem Tryz.slices_DeleteFunc {α : Type} [Inhabited α] (enc : α → Value) (hO : OneCell enc) (p : α → Bool) (g : Nat) (lb : Array Value) (eg : ∀ args w, (callFunc g args).run Tryz.prog w = .ok (.enter g args) w) (zr : α) (v23 : ∀ w, (zeroValue 9).run Tryz.prog w = .ok (enc zr) w) (blk off cap : Nat) (d : Array α) (w : World) (hp : PredAt Tryz.prog g lb enc p w) (hpo : PredOver Tryz.prog g lb enc p blk off d.size w) (hH : Holds enc w blk off d) (hsz : d.size ≤ 9223372036854775807) (hcap : d.size ≤ cap) :
 Calls Tryz.prog 70 #[.slice (some ⟨blk, off, none⟩) d.size cap, .func (.func g) #[] lb] w fun e w' => e = .returned (.slice (some ⟨blk, off, none⟩) (d.toList.filter fun x => !p x).length cap) ∧ ∃ q, w' = putRow enc (Sort.ahead w q) blk off ((d.toList.filter fun x => !p x) ++ List.replicate (d.size - (d.toList.filter fun x => !p x).length) zr).toArray := AnyE.slices_DeleteFunc Tryz.laysSlH10_f70 enc hO p g lb eg zr v23 blk off cap d w hp hpo hH hsz hcap
end Go.Proofs
namespace Go.RowKit
theorem Below.drewN' {B : Nat} {a w : World} (h : Below B a w) (n : Nat) : Below B a (w.drewN n) := ⟨h.os, h.tape, h.output, h.size, h.block⟩
theorem Below.rowK {B : Nat} {a w : World} (h : Below B a w) {g : Nat} (hg : B ≤ g) (cs : Array Value) : Below B a (w.setRow g cs) :=
 h.trans ⟨rfl, rfl, rfl, by simp, fun k hk => setRow_other w g k cs (by omega)⟩
end Go.RowKit
namespace Go.Proofs.YtabidnlbgdecbaaGreatDoor
open Go.RowKit
theorem hid {p : Prop} (h : p) : Hid p := h
def b8 (x : UInt8) : Int := (x.toNat : Int)
theorem b8_nonneg (x : UInt8) : 0 ≤ b8 x := by unfold b8; omega
theorem b8_lt (x : UInt8) : b8 x < 256 := by have := x.toNat_lt; unfold b8; omega
abbrev tl (s : ByteArray) : List UInt8 := s.data.toList
def at8 (l : List UInt8) (i : Nat) : UInt8 := l.getD i 0
theorem tl_length (s : ByteArray) : (tl s).length = s.size := by simp [tl]
theorem i64in (x : Int) (h0 : -9223372036854775808 ≤ x) (h : x < 9223372036854775808) : IntKind.i64.wrap x = x := by
 simp [IntKind.wrap, IntKind.signed, IntKind.bits]; omega
theorem index_str (s : ByteArray) (i : Nat) (h : i < s.size) (w : World) : (Instr.index 9 (.string s) (.int .i64 (i : Int))).run Tryz.prog w = .ok (.int .u8 (b8 (at8 (tl s) i))) w := by
 rw [run_index_string (P := Tryz.prog) w 9 s .i64 (i : Int) Tryz.underlying9, dif_pos ⟨by omega, by omega⟩]
 have : s[(i : Int).toNat]'(by simpa using h) = at8 (tl s) i := by
  have h2 : i < s.data.toList.length := by simpa using h
  show s[i] = _
  simp only [at8, tl, List.getD, List.getElem?_eq_getElem h2, Option.getD_some]
  rfl
 rw [this]; rfl
def rk (c : UInt8) : Nat := if c = 47 then 0 else c.toNat + 1
def cmpL : List UInt8 → List UInt8 → Int
 | [], [] => 0
 | [], _ :: _ => -1
 | _ :: _, [] => 1
 | x :: a, y :: b => if x = y then cmpL a b else if rk x < rk y then -1 else 1
theorem ret_i64 {a b : Int} (h : a = b) : Ending.returned (.int .i64 a) = .returned (.int .i64 b) := by rw [h]
end Go.Proofs.YtabidnlbgdecbaaGreatDoor
namespace Go.Proofs.YtabidnlbgdecbaaGreatDoor
open Go.RowKit
def cutS : List UInt8 → List UInt8 × List UInt8 × Bool
 | [] => ([], [], false)
 | c :: l => if c = 47 then ([], l, true) else (c :: (cutS l).1, (cutS l).2.1, (cutS l).2.2)
theorem cut_one (l : List UInt8) : Lib.cut l [47] = cutS l := by
 induction l with
 | nil => rfl
 | cons c l ih =>
  have hge := Lib.index_ge l [47]
  unfold Lib.cut Lib.index cutS
  by_cases hc : c = 47
  · subst hc; rfl
  · have h1 : [47].isPrefixOf (c :: l) = false := by simp [List.isPrefixOf, Ne.symm hc]
    rw [if_neg (show ¬ [47].isPrefixOf (c :: l) = true by rw [h1]; decide), if_neg hc, ← ih]
    unfold Lib.cut
    by_cases hi : Lib.index l [47] = -1
    · rw [hi]; rfl
    · have h0 : (0 : Int) ≤ Lib.index l [47] := by omega
      have h2 : ¬ (Lib.index l [47] == -1) = true := by simpa using hi
      rw [if_neg h2, if_pos h0, if_pos (show (0 : Int) ≤ Lib.index l [47] + 1 by omega)]
      obtain ⟨n, hn⟩ := Int.eq_ofNat_of_zero_le h0
      rw [hn]
      have e : ((n : Int) + 1).toNat = n + 1 := by omega
      simp only [e, Int.toNat_natCast, List.take_succ_cons, List.length_singleton]
      rw [show n + 1 + 1 = (n + 1) + 1 from rfl, List.drop_succ_cons]
def pieces : List UInt8 → List (List UInt8)
 | [] => [[]]
 | c :: l => if c = 47 then [] :: pieces l else match pieces l with | p :: ps => (c :: p) :: ps | [] => [[c]]
theorem pieces_cut (l : List UInt8) : pieces l = if (cutS l).2.2 then (cutS l).1 :: pieces (cutS l).2.1 else [(cutS l).1] := by
 induction l with
 | nil => rfl
 | cons c l ih =>
  rw [pieces, cutS]
  by_cases hc : c = 47
  · rw [if_pos hc, if_pos hc, if_pos rfl]
  · rw [if_neg hc, if_neg hc, ih]
    cases h : (cutS l).2.2
    · rfl
    · rfl
theorem cutS_len (l : List UInt8) : (cutS l).2.1.length ≤ l.length ∧ (cutS l).1.length ≤ l.length ∧ ((cutS l).2.2 = true → (cutS l).2.1.length < l.length) := by
 induction l with
 | nil => simp [cutS]
 | cons c l ih =>
  unfold cutS
  by_cases hc : c = 47
  · simp [hc]
  · rw [if_neg hc]; simp only [List.length_cons]; refine ⟨by omega, by omega, fun h => by have := ih.2.2 h; omega⟩
theorem pieces_ne (l : List UInt8) : pieces l ≠ [] := by
 rw [pieces_cut]; split <;> simp
def lastP (l : List UInt8) : List UInt8 := (pieces l).getLast (pieces_ne l)
def okB (c : UInt8) : Bool := !decide (b8 c < 32) && !(b8 c == 127) && !(b8 c == 47)
def headB (l : List UInt8) : Bool := !decide (l = []) && decide (l.length ≤ 48) && !decide (l = [46]) && !decide (l = [46, 46])
def nameB (l : List UInt8) : Bool := headB l && l.all okB
def eachF : List (List UInt8) → Nat → List UInt8 → Bool × Nat × List UInt8
 | [], n, b => (true, n, b)
 | p :: ps, n, _ => if decide (n + 1 ≤ 6) && nameB p then eachF ps (n + 1) p else (false, n + 1, p)
def goodB (l : List UInt8) : Bool := decide ((pieces l).length ≤ 6) && (pieces l).all nameB
def aheadL (l : List UInt8) : List UInt8 := l.take (l.length - (lastP l).length - 1)
def mayB (l : List UInt8) : Bool := decide (l.length ≤ 160) && goodB l && decide ((aheadL l).length ≤ 111)
def findV (l : List UInt8) : List UInt8 × List UInt8 := if mayB l then (aheadL l, lastP l) else ([], [])
theorem eachF_good (ps : List (List UInt8)) : ∀ n b, (eachF ps n b).1 = (decide (ps = [] ∨ ps.length + n ≤ 6) && ps.all nameB) := by
 induction ps with
 | nil => intro n b; rfl
 | cons p ps ih =>
  intro n b
  unfold eachF
  by_cases h1 : n + 1 ≤ 6 <;> cases h2 : nameB p
  · simp [h2]
  · simp only [h1, decide_true, Bool.and_true, if_pos]
    rw [ih]
    have e : decide (ps = [] ∨ ps.length + (n + 1) ≤ 6) = decide (p :: ps = [] ∨ (p :: ps).length + n ≤ 6) := by
     rw [decide_eq_decide]
     simp only [List.length_cons, reduceCtorEq, false_or]
     constructor
     · rintro (rfl | h)
       · simp; omega
       · omega
     · intro h; right; omega
    rw [e]; simp [h2]
  · simp [h2]
  · simp [h1]; intro h; omega
theorem eachF_base (ps : List (List UInt8)) (h : ps ≠ []) : ∀ n b, (eachF ps n b).1 = true → (eachF ps n b).2.2 = ps.getLast h := by
 induction ps with
 | nil => exact absurd rfl h
 | cons p ps ih =>
  intro n b hg
  unfold eachF at hg ⊢
  split at hg
  · rename_i hc
    rw [if_pos hc]
    by_cases hp : ps = []
    · subst hp; rfl
    · rw [ih hp _ _ hg, List.getLast_cons hp]
  · cases hg
theorem goodB_each (l : List UInt8) : (eachF (pieces l) 0 []).1 = goodB l := by
 rw [eachF_good]; unfold goodB; congr 1; rw [decide_eq_decide]; simp [pieces_ne]
theorem goodB_base (l : List UInt8) (h : goodB l = true) : (eachF (pieces l) 0 []).2.2 = lastP l := eachF_base _ (pieces_ne l) 0 [] (by rw [goodB_each, h])
theorem nameB_ne {l : List UInt8} (h : nameB l = true) : l ≠ [] := by
 rintro rfl; simp [nameB, headB] at h
theorem mayB_good {l : List UInt8} (h : mayB l = true) : goodB l = true := by
 unfold mayB at h; simp only [Bool.and_eq_true] at h; exact h.1.2
theorem good_all {l : List UInt8} (h : goodB l = true) : ∀ p ∈ pieces l, nameB p = true := by
 unfold goodB at h; simp only [Bool.and_eq_true, List.all_eq_true] at h; exact h.2
theorem lastP_mem (l : List UInt8) : lastP l ∈ pieces l := List.getLast_mem _
theorem mayB_last {l : List UInt8} (h : mayB l = true) : lastP l ≠ [] := nameB_ne (good_all (mayB_good h) _ (lastP_mem l))
end Go.Proofs.YtabidnlbgdecbaaGreatDoor
namespace Go.Proofs.YtabidnlbgdecbaaGreatDoor
open Go.RowKit
theorem toList_tl (s : ByteArray) : s.toList = tl s := ByteArray.toList_eq s
theorem okB_at (l : List UInt8) (k : Nat) (h : k < l.length) (ha : (l.take k).all okB = true) (hk : okB (at8 l k) = true) : (l.take (k + 1)).all okB = true := by
 have e : at8 l k = l[k] := by simp [at8, List.getD, List.getElem?_eq_getElem h]
 rw [e] at hk
 rw [List.take_succ_eq_append_getElem h, List.all_append, ha]; simp [hk]
theorem okB_no (l : List UInt8) (k : Nat) (h : k < l.length) (hk : okB (at8 l k) = false) : nameB l = false := by
 have e : at8 l k = l[k] := by simp [at8, List.getD, List.getElem?_eq_getElem h]
 rw [e] at hk
 have : l.all okB = false := by rw [List.all_eq_false]; exact ⟨_, List.getElem_mem h, by simp [hk]⟩
 simp [nameB, this]
theorem ret_bool {a b : Bool} (h : a = b) : Ending.returned (.bool a) = .returned (.bool b) := by rw [h]
set_option maxHeartbeats 1000000 in
theorem name_any (s : ByteArray) (w : World) (hs : s.size ≤ 140737488355328) :
 Calls Tryz.prog 125 #[.string s] w fun e w' => e = .returned (.bool (nameB (tl s))) ∧ w = w' := by
 have hc : Hid (s.toList = tl s) := toList_tl s
 have hz : Hid (s.size = (tl s).length) := (tl_length s).symm
 have hcase : (s.toList = []) ∨ (s.toList ≠ [] ∧ 48 < s.size) ∨ (s.toList ≠ [] ∧ s.size ≤ 48 ∧ s.toList = [46]) ∨ (s.toList ≠ [] ∧ s.size ≤ 48 ∧ s.toList ≠ [46] ∧ s.toList = [46, 46]) ∨ (s.toList ≠ [] ∧ s.size ≤ 48 ∧ s.toList ≠ [46] ∧ s.toList ≠ [46, 46]) := by
  by_cases h1 : s.toList = []
  · exact .inl h1
  · by_cases h2 : s.size ≤ 48
    · by_cases h3 : s.toList = [46]
      · exact .inr (.inr (.inl ⟨h1, h2, h3⟩))
      · by_cases h4 : s.toList = [46, 46]
        · exact .inr (.inr (.inr (.inl ⟨h1, h2, h3, h4⟩)))
        · exact .inr (.inr (.inr (.inr ⟨h1, h2, h3, h4⟩)))
    · exact .inr (.inl ⟨h1, by omega⟩)
 rcases hcase with h1 | ⟨h1, h2⟩ | ⟨h1, h2, h3⟩ | ⟨h1, h2, h3, h4⟩ | ⟨h1, h2, h3, h4⟩
 · have hn : Hid (nameB (tl s) = false) := by show _ = _; simp [nameB, headB, ← hc.out, h1]
   go_enter Tryz.func125, Tryz.ntmps125
   go_wp2
   go_step3
   go_wp2
   go_step3
   go_wp2
   go_loopw [3, 23] (fun v i wr => ∃ k : Nat, k ≤ s.size ∧ i = .int .i64 (k : Int) ∧ v = .bool false ∧ w = wr)
    (fun _ i _ => s.size - (intOf i).toNat)
   case atStart => exact ⟨0, by omega, rfl, rfl, rfl⟩
   case round =>
    obtain ⟨k, hk, rfl, rfl, rfl⟩ := hrel
    by_cases hlt : k < s.size
    · have i1 := index_str s k hlt
      generalize at8 (tl s) k = x at i1
      have b1 := b8_nonneg x
      have b2 := b8_lt x
      by_cases c1 : b8 x < 32
      · have HO : Hid (okB x = false) := by show _ = _; simp [okB, c1]
        have t1 : decide (b8 x < 32) = true := by simp [c1]
        clear c1
        go_wp2
        rw [Exit.noGoto_ret]
        go_ret
        exact ⟨ret_bool hn.out.symm, rfl⟩
      · have t1 : decide (b8 x < 32) = false := by simp [c1]
        by_cases c2 : b8 x = 127
        · have HO : Hid (okB x = false) := by show _ = _; simp [okB, c2]
          have t2 : (b8 x == 127) = true := by simp [c2]
          clear c1 c2
          go_wp2
          rw [Exit.noGoto_ret]
          go_ret
          exact ⟨ret_bool hn.out.symm, rfl⟩
        · have t2 : (b8 x == 127) = false := by simp [c2]
          by_cases c3 : b8 x = 47
          · have HO : Hid (okB x = false) := by show _ = _; simp [okB, c3]
            have t3 : (b8 x == 47) = true := by simp [c3]
            clear c1 c2 c3
            go_wp2
            rw [Exit.noGoto_ret]
            go_ret
            exact ⟨ret_bool hn.out.symm, rfl⟩
          · have t3 : (b8 x == 47) = false := by simp [c3]
            have HO : Hid (okB x = true) := by show _ = _; simp [okB, c1, c2, c3]
            clear c1 c2 c3
            go_wp2
            go_roundw
            case rel => exact ⟨k + 1, by omega, by go_num, rfl, trivial⟩
            case measure => simp [intOf]; omega
    · have HK : Hid (k = s.size) := by show _ = _; omega
      go_wp2
      try rw [Exit.noGoto_ret]
      go_ret
      exact ⟨ret_bool hn.out.symm, rfl⟩
 · have g1 : (!s.toList.isEmpty) = true := by simp [h1]
   have g2 : ¬ ((s.size : Int) ≤ 48) := by omega
   have hn : Hid (nameB (tl s) = false) := by show _ = _; simp [nameB, headB, ← hz.out]; omega
   clear h1 h2
   go_enter Tryz.func125, Tryz.ntmps125
   go_wp2
   go_step3
   go_wp2
   go_step3
   go_wp2
   go_loopw [3, 23] (fun v i wr => ∃ k : Nat, k ≤ s.size ∧ i = .int .i64 (k : Int) ∧ v = .bool false ∧ w = wr)
    (fun _ i _ => s.size - (intOf i).toNat)
   case atStart => exact ⟨0, by omega, rfl, rfl, rfl⟩
   case round =>
    obtain ⟨k, hk, rfl, rfl, rfl⟩ := hrel
    by_cases hlt : k < s.size
    · have i1 := index_str s k hlt
      generalize at8 (tl s) k = x at i1
      have b1 := b8_nonneg x
      have b2 := b8_lt x
      by_cases c1 : b8 x < 32
      · have HO : Hid (okB x = false) := by show _ = _; simp [okB, c1]
        have t1 : decide (b8 x < 32) = true := by simp [c1]
        clear c1
        go_wp2
        rw [Exit.noGoto_ret]
        go_ret
        exact ⟨ret_bool hn.out.symm, rfl⟩
      · have t1 : decide (b8 x < 32) = false := by simp [c1]
        by_cases c2 : b8 x = 127
        · have HO : Hid (okB x = false) := by show _ = _; simp [okB, c2]
          have t2 : (b8 x == 127) = true := by simp [c2]
          clear c1 c2
          go_wp2
          rw [Exit.noGoto_ret]
          go_ret
          exact ⟨ret_bool hn.out.symm, rfl⟩
        · have t2 : (b8 x == 127) = false := by simp [c2]
          by_cases c3 : b8 x = 47
          · have HO : Hid (okB x = false) := by show _ = _; simp [okB, c3]
            have t3 : (b8 x == 47) = true := by simp [c3]
            clear c1 c2 c3
            go_wp2
            rw [Exit.noGoto_ret]
            go_ret
            exact ⟨ret_bool hn.out.symm, rfl⟩
          · have t3 : (b8 x == 47) = false := by simp [c3]
            have HO : Hid (okB x = true) := by show _ = _; simp [okB, c1, c2, c3]
            clear c1 c2 c3
            go_wp2
            go_roundw
            case rel => exact ⟨k + 1, by omega, by go_num, rfl, trivial⟩
            case measure => simp [intOf]; omega
    · have HK : Hid (k = s.size) := by show _ = _; omega
      go_wp2
      try rw [Exit.noGoto_ret]
      go_ret
      exact ⟨ret_bool hn.out.symm, rfl⟩
 · have g1 : (!s.toList.isEmpty) = true := by simp [h1]
   have g2 : ((s.size : Int) ≤ 48) := by omega
   have g3 : (!s.toList == [46]) = false := by simp [h3]
   have hn : Hid (nameB (tl s) = false) := by show _ = _; simp [nameB, headB, ← hc.out, h3]
   clear h1 h2 h3
   go_enter Tryz.func125, Tryz.ntmps125
   go_wp2
   go_step3
   go_wp2
   go_step3
   go_wp2
   go_loopw [3, 23] (fun v i wr => ∃ k : Nat, k ≤ s.size ∧ i = .int .i64 (k : Int) ∧ v = .bool false ∧ w = wr)
    (fun _ i _ => s.size - (intOf i).toNat)
   case atStart => exact ⟨0, by omega, rfl, rfl, rfl⟩
   case round =>
    obtain ⟨k, hk, rfl, rfl, rfl⟩ := hrel
    by_cases hlt : k < s.size
    · have i1 := index_str s k hlt
      generalize at8 (tl s) k = x at i1
      have b1 := b8_nonneg x
      have b2 := b8_lt x
      by_cases c1 : b8 x < 32
      · have HO : Hid (okB x = false) := by show _ = _; simp [okB, c1]
        have t1 : decide (b8 x < 32) = true := by simp [c1]
        clear c1
        go_wp2
        rw [Exit.noGoto_ret]
        go_ret
        exact ⟨ret_bool hn.out.symm, rfl⟩
      · have t1 : decide (b8 x < 32) = false := by simp [c1]
        by_cases c2 : b8 x = 127
        · have HO : Hid (okB x = false) := by show _ = _; simp [okB, c2]
          have t2 : (b8 x == 127) = true := by simp [c2]
          clear c1 c2
          go_wp2
          rw [Exit.noGoto_ret]
          go_ret
          exact ⟨ret_bool hn.out.symm, rfl⟩
        · have t2 : (b8 x == 127) = false := by simp [c2]
          by_cases c3 : b8 x = 47
          · have HO : Hid (okB x = false) := by show _ = _; simp [okB, c3]
            have t3 : (b8 x == 47) = true := by simp [c3]
            clear c1 c2 c3
            go_wp2
            rw [Exit.noGoto_ret]
            go_ret
            exact ⟨ret_bool hn.out.symm, rfl⟩
          · have t3 : (b8 x == 47) = false := by simp [c3]
            have HO : Hid (okB x = true) := by show _ = _; simp [okB, c1, c2, c3]
            clear c1 c2 c3
            go_wp2
            go_roundw
            case rel => exact ⟨k + 1, by omega, by go_num, rfl, trivial⟩
            case measure => simp [intOf]; omega
    · have HK : Hid (k = s.size) := by show _ = _; omega
      go_wp2
      try rw [Exit.noGoto_ret]
      go_ret
      exact ⟨ret_bool hn.out.symm, rfl⟩
 · have g1 : (!s.toList.isEmpty) = true := by simp [h1]
   have g2 : ((s.size : Int) ≤ 48) := by omega
   have g3 : (!s.toList == [46]) = true := by simp [h3]
   have g4 : (!s.toList == [46, 46]) = false := by simp [h4]
   have hn : Hid (nameB (tl s) = false) := by show _ = _; simp [nameB, headB, ← hc.out, h4]
   clear h1 h2 h3 h4
   go_enter Tryz.func125, Tryz.ntmps125
   go_wp2
   go_step3
   go_wp2
   go_step3
   go_wp2
   go_loopw [3, 23] (fun v i wr => ∃ k : Nat, k ≤ s.size ∧ i = .int .i64 (k : Int) ∧ v = .bool false ∧ w = wr)
    (fun _ i _ => s.size - (intOf i).toNat)
   case atStart => exact ⟨0, by omega, rfl, rfl, rfl⟩
   case round =>
    obtain ⟨k, hk, rfl, rfl, rfl⟩ := hrel
    by_cases hlt : k < s.size
    · have i1 := index_str s k hlt
      generalize at8 (tl s) k = x at i1
      have b1 := b8_nonneg x
      have b2 := b8_lt x
      by_cases c1 : b8 x < 32
      · have HO : Hid (okB x = false) := by show _ = _; simp [okB, c1]
        have t1 : decide (b8 x < 32) = true := by simp [c1]
        clear c1
        go_wp2
        rw [Exit.noGoto_ret]
        go_ret
        exact ⟨ret_bool hn.out.symm, rfl⟩
      · have t1 : decide (b8 x < 32) = false := by simp [c1]
        by_cases c2 : b8 x = 127
        · have HO : Hid (okB x = false) := by show _ = _; simp [okB, c2]
          have t2 : (b8 x == 127) = true := by simp [c2]
          clear c1 c2
          go_wp2
          rw [Exit.noGoto_ret]
          go_ret
          exact ⟨ret_bool hn.out.symm, rfl⟩
        · have t2 : (b8 x == 127) = false := by simp [c2]
          by_cases c3 : b8 x = 47
          · have HO : Hid (okB x = false) := by show _ = _; simp [okB, c3]
            have t3 : (b8 x == 47) = true := by simp [c3]
            clear c1 c2 c3
            go_wp2
            rw [Exit.noGoto_ret]
            go_ret
            exact ⟨ret_bool hn.out.symm, rfl⟩
          · have t3 : (b8 x == 47) = false := by simp [c3]
            have HO : Hid (okB x = true) := by show _ = _; simp [okB, c1, c2, c3]
            clear c1 c2 c3
            go_wp2
            go_roundw
            case rel => exact ⟨k + 1, by omega, by go_num, rfl, trivial⟩
            case measure => simp [intOf]; omega
    · have HK : Hid (k = s.size) := by show _ = _; omega
      go_wp2
      try rw [Exit.noGoto_ret]
      go_ret
      exact ⟨ret_bool hn.out.symm, rfl⟩
 · have g1 : (!s.toList.isEmpty) = true := by simp [h1]
   have g2 : ((s.size : Int) ≤ 48) := by omega
   have g3 : (!s.toList == [46]) = true := by simp [h3]
   have g4 : (!s.toList == [46, 46]) = true := by simp [h4]
   have hn : Hid (headB (tl s) = true) := by show _ = _; simp [headB, ← hc.out, h1, h3, h4]; rw [hc.out, ← hz.out]; exact h2
   clear h1 h2 h3 h4
   go_enter Tryz.func125, Tryz.ntmps125
   go_wp2
   go_step3
   go_wp2
   go_step3
   go_wp2
   go_loopw [3, 23] (fun v i wr => ∃ k : Nat, k ≤ s.size ∧ i = .int .i64 (k : Int) ∧ v = .bool true ∧ Hid (((tl s).take k).all okB = true) ∧ w = wr)
    (fun _ i _ => s.size - (intOf i).toNat)
   case atStart => exact ⟨0, by omega, rfl, rfl, rfl, rfl⟩
   case round =>
    obtain ⟨k, hk, rfl, rfl, HA, rfl⟩ := hrel
    by_cases hlt : k < s.size
    · have i1 := index_str s k hlt
      have HY := hid (okB_at (tl s) k (by rw [tl_length]; exact hlt) HA.out)
      have HN := hid (okB_no (tl s) k (by rw [tl_length]; exact hlt))
      generalize at8 (tl s) k = x at i1 HY HN
      have b1 := b8_nonneg x
      have b2 := b8_lt x
      by_cases c1 : b8 x < 32
      · have HO : Hid (okB x = false) := by show _ = _; simp [okB, c1]
        have t1 : decide (b8 x < 32) = true := by simp [c1]
        clear c1
        go_wp2
        rw [Exit.noGoto_ret]
        go_ret
        exact ⟨ret_bool (HN.out HO.out).symm, rfl⟩
      · have t1 : decide (b8 x < 32) = false := by simp [c1]
        by_cases c2 : b8 x = 127
        · have HO : Hid (okB x = false) := by show _ = _; simp [okB, c2]
          have t2 : (b8 x == 127) = true := by simp [c2]
          clear c1 c2
          go_wp2
          rw [Exit.noGoto_ret]
          go_ret
          exact ⟨ret_bool (HN.out HO.out).symm, rfl⟩
        · have t2 : (b8 x == 127) = false := by simp [c2]
          by_cases c3 : b8 x = 47
          · have HO : Hid (okB x = false) := by show _ = _; simp [okB, c3]
            have t3 : (b8 x == 47) = true := by simp [c3]
            clear c1 c2 c3
            go_wp2
            rw [Exit.noGoto_ret]
            go_ret
            exact ⟨ret_bool (HN.out HO.out).symm, rfl⟩
          · have t3 : (b8 x == 47) = false := by simp [c3]
            have HO : Hid (okB x = true) := by show _ = _; simp [okB, c1, c2, c3]
            clear c1 c2 c3
            go_wp2
            go_roundw
            case rel => exact ⟨k + 1, by omega, by go_num, rfl, HY.out HO.out, trivial⟩
            case measure => simp [intOf]; omega
    · have HK : Hid (k = s.size) := by show _ = _; omega
      go_wp2
      try rw [Exit.noGoto_ret]
      go_ret
      refine ⟨ret_bool ?_, rfl⟩
      have ha := HA.out
      rw [List.take_of_length_le (by rw [tl_length, HK.out]; exact Nat.le_refl _)] at ha
      simp [nameB, hn.out, ha]
end Go.Proofs.YtabidnlbgdecbaaGreatDoor
namespace Go.Proofs.YtabidnlbgdecbaaGreatDoor
open Go.RowKit
structure Gd (w : World) : Prop where
 sh : w.ShapedOpen Tryz.prog
 lo : Tryz.prog.low ≤ w.heap.size
 tab : Lib.TabIs Tryz.prog w "internal/strconv.uint64pow10" .u64 Lib.pow10Tab
 es : ∃ ev, w.cell? ⟨2, 0, none⟩ = some ev ∧ (ev = .nilIface ∨ ∃ te pe, ev = .iface te pe)
theorem Gd.kept {w w' : World} (h : Gd w) (hb : Below w.heap.size w w') : Gd w' := by
 obtain ⟨ev, h1, h2⟩ := h.es
 exact ⟨h.sh.keptBut (hb.frame (fun p => w.heap.size ≤ p.block)) (fun p hp => Nat.le_trans h.lo hp), Nat.le_trans h.lo hb.size, Go.Joins.tab_stays (g := 1) (by kernel_rfl) h.tab hb (Nat.le_refl _), ev, (hb.cell (p := ⟨2, 0, none⟩) (block_lt_of_cell h1)).trans h1, h2⟩
def ba (l : List UInt8) : ByteArray := ⟨l.toArray⟩
theorem tl_ba (l : List UInt8) : tl (ba l) = l := rfl
theorem ba_tl (s : ByteArray) : ba (tl s) = s := by simp [ba, tl]
theorem ba_size (l : List UInt8) : (ba l).size = l.length := by rw [← tl_length]; rfl
theorem cut_any (s : ByteArray) (p q : List UInt8) (m : Bool) (h : Hid (cutS (tl s) = (p, q, m))) (w : World) (hG : Gd w) (hs : s.size < 4294967281) :
 Calls Tryz.prog 114 #[.string s, .string ⟨#[47]⟩] w fun e w' => e = .returned (.tuple #[.string (ba p), .string (ba q), .bool m]) ∧ ∃ n, w' = w.drewN n := by
 refine (Tryz.strings_Cut_shaped s ⟨#[47]⟩ w hG.sh hs).mono fun e w' ⟨h1, h2⟩ => ⟨?_, h2⟩
 have e2 : Lib.cut (tl s) [47] = (p, q, m) := (cut_one _).trans h.out
 rw [h1]
 show Ending.returned (.tuple #[.string (ba (Lib.cut (tl s) [47]).1), .string (ba (Lib.cut (tl s) [47]).2.1), .bool (Lib.cut (tl s) [47]).2.2]) = _
 rw [e2]
def Has (w : World) (g : Nat) (t : TypeId) (cs : Array Value) : Prop := w.heap[g]? = some (.cells cs t (0, 0))
section
variable {w w' : World} {g : Nat} {t : TypeId} {cs : Array Value}
theorem Has.inside (h : Has w g t cs) : g < w.heap.size := by
 unfold Has at h
 exact (Array.getElem?_eq_some_iff.1 h).1
theorem Has.at_ (h : Has w g t cs) (i : Nat) : w.cell? ⟨g, i, none⟩ = cs[i]? := cell_of_row w g i cs t (0, 0) h
theorem Has.free (h : Has w g t cs) (i : Nat) : w.frozen? ⟨g, i, none⟩ = false := by
 unfold Has at h
 simp [World.frozen?, h]
theorem Has.fresh (w : World) (t : TypeId) (cs : Array Value) : Has (w.alloc (.cells cs t)) w.heap.size t cs := heap_alloc_new w _
theorem Has.fresh' (w : World) (t : TypeId) (cs : Array Value) {g : Nat} (hg : g = w.heap.size) : Has (w.alloc (.cells cs t)) g t cs := by subst hg; exact Has.fresh w t cs
theorem Has.drawn (h : Has w g t cs) (n : Nat) : Has (w.drewN n) g t cs := h
theorem Has.more (h : Has w g t cs) (o : Obj) : Has (w.alloc o) g t cs := (Below.heap_alloc w o g h.inside).trans h
theorem Has.put (h : Has w g t cs) (i : Nat) (v : Value) : Has (w.setCell ⟨g, i, none⟩ v) g t (cs.setIfInBounds i v) := by
 unfold Has at h ⊢
 simp [World.setCell, Array.getElem?_modify, h]
theorem Has.other (h : Has w g t cs) {p : Addr} (hp : g ≠ p.block) (v : Value) : Has (w.setCell p v) g t cs := (Below.heap_setCell w p v g hp).trans h
theorem Has.kept {B : Nat} (h : Has w g t cs) (hb : Below B w w') (hg : g < B) : Has w' g t cs := (hb.block g hg).trans h
end
theorem Has.row {w : World} {g : Nat} {t : TypeId} {cs cs' : Array Value} (h : Has w g t cs) : Has (w.setRow g cs') g t cs' := setRow_heap w g cs cs' t (0, 0) h
theorem Has.rowOther {w : World} {g g' : Nat} {t : TypeId} {cs cs' : Array Value} (h : Has w g t cs) (hg : g ≠ g') : Has (w.setRow g' cs') g t cs := (setRow_other w g' g cs' hg).trans h
def FC (b n : Nat) (s : ByteArray) (k : Nat) (w w' : World) : Prop := w' = (w.setCell ⟨b, 0, none⟩ (.string s)).setCell ⟨n, 0, none⟩ (.int .i64 ((k + 1 : Nat) : Int))
set_option maxHeartbeats 400000 in
theorem findC_any (s : ByteArray) (b n : Nat) (v : Value) (k : Nat) (w : World) (hs : s.size ≤ 140737488355328) (hk : k ≤ 6) (hb : Has w b 9 #[v]) (hn : Has w n 3 #[.int .i64 (k : Int)]) (hne : b ≠ n) :
 Calls Tryz.prog 124 #[.string s, .pointer (some ⟨b, 0, none⟩), .pointer (some ⟨n, 0, none⟩)] w fun e w' => e = .returned (.bool (decide (k + 1 ≤ 6) && nameB (tl s))) ∧ FC b n s k w w' := by
 have c1 : w.cell? ⟨b, 0, none⟩ = some v := hb.at_ 0
 have c2 : w.cell? ⟨n, 0, none⟩ = some (.int .i64 (k : Int)) := hn.at_ 0
 have f1 := hb.free 0
 have f2 := hn.free 0
 have c3 : (w.setCell ⟨b, 0, none⟩ (.string s)).cell? ⟨n, 0, none⟩ = some (.int .i64 (k : Int)) := (Has.other hn hne.symm _).at_ 0
 have f3 := (Has.other hn (p := ⟨b, 0, none⟩) hne.symm (.string s)).free 0
 clear hb hn
 by_cases h6 : k + 1 ≤ 6
 · have g1 : (k : Int) + 1 ≤ 6 := by omega
   have H6 := hid h6
   clear h6 hk
   go_enter Tryz.func124, Tryz.ntmps124
   go_wp2_with (go_at_call 125; refine (name_any _ _ hs).mono ?_; rintro e1 w1 ⟨rfl, rfl⟩)
   go_ret
   refine ⟨ret_bool (by simp [H6.out]), ?_⟩
   unfold FC; rfl
 · have g1 : ¬ ((k : Int) + 1 ≤ 6) := by omega
   have H6 := hid h6
   clear h6
   go_enter Tryz.func124, Tryz.ntmps124
   go_wp2
   go_ret
   refine ⟨ret_bool (by have h := H6.out; rw [decide_eq_false (show ¬ k ≤ 5 by omega)]; rfl), ?_⟩
   unfold FC; rfl
theorem FC.post {b n k : Nat} {s : ByteArray} {v : Value} {w0 w w' : World} (h : FC b n s k w w') (hb : Has w b 9 #[v]) (hn : Has w n 3 #[.int .i64 (k : Int)]) (hne : b ≠ n) (hB : Below w0.heap.size w0 w) (h1 : w0.heap.size ≤ b) (h2 : w0.heap.size ≤ n) :
 Has w' b 9 #[.string s] ∧ Has w' n 3 #[.int .i64 ((k + 1 : Nat) : Int)] ∧ Below w0.heap.size w0 w' := by
 unfold FC at h; subst h
 exact ⟨((hb.put 0 _).other (p := ⟨n, 0, none⟩) hne _), ((hn.other (p := ⟨b, 0, none⟩) hne.symm _).put 0 _), (hB.setCell h1 _).setCell h2 _⟩
def EC (w0 : World) (b n : Nat) (r : Bool × Nat × List UInt8) (e : Ending) (w' : World) : Prop :=
 e = .returned (.bool r.1) ∧ Has w' b 9 #[.string (ba r.2.2)] ∧ Has w' n 3 #[.int .i64 (r.2.1 : Int)] ∧ Below w0.heap.size w0 w'
set_option maxHeartbeats 400000 in
theorem each_any (s : ByteArray) (b n : Nat) (v : List UInt8) (k : Nat) (w0 w : World) (hG : Gd w0) (hs : s.size ≤ 4000) (hk : k ≤ 6) (hb : Has w b 9 #[.string (ba v)]) (hn : Has w n 3 #[.int .i64 (k : Int)]) (hne : b ≠ n)
 (hB : Below w0.heap.size w0 w) (h1 : w0.heap.size ≤ b) (h2 : w0.heap.size ≤ n) :
 Calls Tryz.prog 123 #[.string s, .func (.func 124) #[] #[.pointer (some ⟨b, 0, none⟩), .pointer (some ⟨n, 0, none⟩)]] w fun e w' => EC w0 b n (eachF (pieces (tl s)) k v) e w' := by
 have HG := hid hG; have HB := hid hB; have Hb := hid hb; have Hn := hid hn; have Hne := hid hne; have H1 := hid h1; have H2 := hid h2
 clear hG hB hb hn hne h1 h2
 go_enter Tryz.func123, Tryz.ntmps123
 go_wp2
 go_loopw [0, 5] (fun t m wr => ∃ (r : ByteArray) (g : Bool) (j : Nat) (u : List UInt8), t = .string r ∧ m = .bool g ∧ r.size ≤ 4000 ∧ j ≤ 6 ∧ Hid (eachF (pieces (tl s)) k v = if g then eachF (pieces (tl r)) j u else (true, j, u))
  ∧ Hid (Has wr b 9 #[.string (ba u)]) ∧ Hid (Has wr n 3 #[.int .i64 (j : Int)]) ∧ Hid (Below w0.heap.size w0 wr))
  (fun t m _ => match t, m with | .string r, .bool true => r.size + 1 | _, _ => 0)
 case atStart => exact ⟨s, true, k, v, rfl, rfl, hs, hk, rfl, Hb, Hn, HB⟩
 case round =>
  obtain ⟨r, g, j, u, rfl, rfl, hr, hj, HE, J1, J2, J3⟩ := hrel
  cases g with
  | false =>
   go_wp2
   go_ret
   unfold EC
   rw [HE.out]
   exact ⟨rfl, J1.out, J2.out, J3.out⟩
  | true =>
   obtain ⟨p, q, m, HC⟩ : ∃ p q m, Hid (cutS (tl r) = (p, q, m)) := ⟨_, _, _, rfl⟩
   have hp : p.length ≤ 4000 := by have := (cutS_len (tl r)).2.1; rw [HC.out, tl_length] at this; simp only at this; omega
   have hq : q.length ≤ 4000 := by have := (cutS_len (tl r)).1; rw [HC.out, tl_length] at this; simp only at this; omega
   have HQ : Hid (m = true → q.length < r.size) := by intro hm; have := (cutS_len (tl r)).2.2; rw [HC.out, tl_length] at this; exact this hm
   have HP : Hid (eachF (pieces (tl r)) j u = if decide (j + 1 ≤ 6) && nameB p then (if m then eachF (pieces q) (j + 1) p else (true, j + 1, p)) else (false, j + 1, p)) := by
    show _ = _
    rw [pieces_cut, HC.out]
    cases m <;> rfl
   obtain ⟨c, HV⟩ : ∃ c, Hid ((decide (j + 1 ≤ 6) && nameB p) = c) := ⟨_, rfl⟩
   have hps : (ba p).size ≤ 140737488355328 := by rw [ba_size]; omega
   have HF : Hid (∀ (W : World), Has W b 9 #[.string (ba u)] → Has W n 3 #[.int .i64 (j : Int)] → Calls Tryz.prog 124 #[.string (ba p), .pointer (some ⟨b, 0, none⟩), .pointer (some ⟨n, 0, none⟩)] W fun e w' => e = .returned (.bool c) ∧ FC b n (ba p) j W w') := by
    intro W h1 h2
    have := findC_any (ba p) b n _ j W hps hj h1 h2 Hne.out
    rw [tl_ba, HV.out] at this; exact this
   cases c with
   | false =>
    go_wp2_with (first
     | (go_at_call 114; refine (cut_any r p q m HC wr (HG.out.kept J3.out) (by omega)).mono ?_; rintro e1 w1 ⟨rfl, nd, rfl⟩)
     | (go_at_call 124; refine (HF.out _ (J1.out.drawn nd) (J2.out.drawn nd)).mono ?_; rintro e2 w2 ⟨rfl, hfc⟩; have FC1 := hid hfc; clear hfc))
    go_ret
    obtain ⟨F1, F2, F3⟩ := FC1.out.post (J1.out.drawn nd) (J2.out.drawn nd) Hne.out (J3.out.drewN' nd) H1.out H2.out
    unfold EC
    rw [HE.out, if_pos trivial, HP.out, HV.out, if_neg (by decide)]
    exact ⟨rfl, F1, F2, F3⟩
   | true =>
    go_wp2_with (first
     | (go_at_call 114; refine (cut_any r p q m HC wr (HG.out.kept J3.out) (by omega)).mono ?_; rintro e1 w1 ⟨rfl, nd, rfl⟩)
     | (go_at_call 124; refine (HF.out _ (J1.out.drawn nd) (J2.out.drawn nd)).mono ?_; rintro e2 w2 ⟨rfl, hfc⟩; have FC1 := hid hfc; clear hfc))
    have HJ : Hid (j + 1 ≤ 6) := by
     have := HV.out; simp only [Bool.and_eq_true, decide_eq_true_eq] at this; exact this.1
    go_roundw
    case rel =>
     obtain ⟨F1, F2, F3⟩ := FC1.out.post (J1.out.drawn nd) (J2.out.drawn nd) Hne.out (J3.out.drewN' nd) H1.out H2.out
     exact ⟨ba q, m, j + 1, p, rfl, rfl, by rw [ba_size]; exact hq, HJ.out, by show _ = _; rw [HE.out, if_pos trivial, HP.out, HV.out, if_pos rfl, tl_ba], F1, F2, F3⟩
    case measure =>
     cases m with
     | false => simp
     | true => simp [ba_size]; exact HQ.out rfl
end Go.Proofs.YtabidnlbgdecbaaGreatDoor
namespace Go.Proofs.YtabidnlbgdecbaaGreatDoor
open Go.RowKit
theorem pieces_len (n : Nat) : ∀ l : List UInt8, l.length ≤ n → ∀ p ∈ pieces l, p.length ≤ l.length := by
 induction n with
 | zero => intro l h p hp; obtain rfl := List.length_eq_zero_iff.1 (Nat.le_zero.1 h); simp [pieces] at hp; simp [hp]
 | succ n ih =>
  intro l h p hp
  rw [pieces_cut] at hp
  have h1 := cutS_len l
  split at hp
  · rename_i hc
    rcases List.mem_cons.1 hp with rfl | hp
    · exact h1.2.1
    · exact Nat.le_trans (ih _ (by have := h1.2.2 hc; omega) p hp) h1.1
  · simp only [List.mem_singleton] at hp; subst hp; exact h1.2.1
theorem eachF_len (ps : List (List UInt8)) (m : Nat) (h : ∀ p ∈ ps, p.length ≤ m) : ∀ n b, b.length ≤ m → (eachF ps n b).2.2.length ≤ m := by
 induction ps with
 | nil => intro n b hb; exact hb
 | cons p ps ih =>
  intro n b hb
  unfold eachF
  split
  · exact ih (fun q hq => h q (List.mem_cons_of_mem _ hq)) _ _ (h p List.mem_cons_self)
  · exact h p List.mem_cons_self
theorem ba_take (s : ByteArray) (k : Nat) : s.extract 0 k = ba ((tl s).take k) := by
 apply ByteArray.ext; apply Array.ext'; simp [ba, tl]
abbrev plc (v : List UInt8 × List UInt8) : Value := .agg #[.string (ba v.1), .string (ba v.2)]
theorem findV_no {l : List UInt8} (h : mayB l = false) : findV l = ([], []) := by simp [findV, h]
theorem findV_yes {l : List UInt8} (h : mayB l = true) : findV l = (aheadL l, lastP l) := by simp [findV, h]
theorem iPlace : (Tryz.prog.info? 138).map (·.size) = some 2 := by kernel_rfl
set_option maxHeartbeats 1000000 in
theorem find_any (s : ByteArray) (w : World) (hG : Gd w) (hs : s.size ≤ 4000) :
 Calls Tryz.prog 80 #[.string s] w fun e w' => e = .returned (plc (findV (tl s))) ∧ Below w.heap.size w w' := by
 have hmf : ∀ (fn : Fn) (first cap : Array Value) (w : World), (Instr.makeFunc fn first cap).run Tryz.prog w = .ok (.func fn first cap) w := fun _ _ _ _ => rfl
 by_cases h160 : s.size ≤ 160
 · have g1 : ¬ ((160 : Int) < (s.size : Int)) := by omega
   have HG := hid hG
   have HG0 : Hid (Gd (w.alloc (.cells #[.string ⟨#[]⟩, .string ⟨#[]⟩] 138))) := hG.kept ((Below.refl _ _).alloc (Nat.le_refl _) _)
   clear hG
   obtain ⟨g, n', u, HR⟩ : ∃ g n' u, Hid (eachF (pieces (tl s)) 0 [] = (g, n', u)) := ⟨_, _, _, rfl⟩
   have hu : u.length ≤ s.size := by
    have := eachF_len (pieces (tl s)) (tl s).length (pieces_len _ (tl s) (Nat.le_refl _)) 0 [] (Nat.zero_le _)
    rw [HR.out, tl_length] at this; exact this
   obtain ⟨b, HB⟩ : ∃ b, Hid (ba u = b) := ⟨_, rfl⟩
   have hbs : b.size ≤ s.size := by rw [← HB.out, ba_size]; exact hu
   have HE : Hid (∀ W : World, Has W (w.heap.size + 1) 9 #[.string (ba [])] → Has W (w.heap.size + 2) 3 #[.int .i64 ((0 : Nat) : Int)] → Below (w.heap.size + 1) (w.alloc (.cells #[.string ⟨#[]⟩, .string ⟨#[]⟩] 138)) W →
    Calls Tryz.prog 123 #[.string s, .func (.func 124) #[] #[.pointer (some ⟨w.heap.size + 1, 0, none⟩), .pointer (some ⟨w.heap.size + 2, 0, none⟩)]] W fun e w' => e = .returned (.bool g) ∧ Has w' (w.heap.size + 1) 9 #[.string b] ∧ Below (w.heap.size + 1) (w.alloc (.cells #[.string ⟨#[]⟩, .string ⟨#[]⟩] 138)) w') := by
    intro W h1 h2 h3
    refine (each_any s (w.heap.size + 1) (w.heap.size + 2) [] 0 (w.alloc (.cells #[.string ⟨#[]⟩, .string ⟨#[]⟩] 138)) W HG0.out hs (by omega) h1 h2 (by omega) (by simpa using h3) (by simp) (by simp)).mono fun e w' h => ?_
    unfold EC at h
    rw [HR.out, HB.out] at h
    exact ⟨h.1, h.2.1, by simpa using h.2.2.2⟩
   have HZ : Hid (Has (w.alloc (.cells #[.string ⟨#[]⟩, .string ⟨#[]⟩] 138)) w.heap.size 138 #[.string ⟨#[]⟩, .string ⟨#[]⟩]) := Has.fresh _ _ _
   obtain ⟨k, HK⟩ : ∃ k : Nat, Hid (k = s.size - b.size - 1) := ⟨_, rfl⟩
   have hk1 : max (0 : Int) ((s.size : Int) - (b.size : Int) - 1) = (k : Int) := by have := HK.out; omega
   have hk2 : (k : Int) ≤ (s.size : Int) := by have := HK.out; omega
   cases g with
   | false =>
    have HF : Hid (findV (tl s) = ([], [])) := findV_no (by rw [mayB, ← goodB_each, HR.out]; simp)
    go_enter Tryz.func80, Tryz.ntmps80
    go_wp2_with (first
     | (go_at_call 123; refine (HE.out _ (Has.more (Has.fresh' _ _ _ (by simp)) _) (Has.fresh' _ _ _ (by simp)) ((Below.refl _ _).alloc (by simp) _ |>.alloc (by simp) _)).mono ?_; rintro e1 w1 ⟨rfl, hb1, hw1⟩
        have c1 : w1.cell? ⟨w.heap.size + 1, 0, none⟩ = some (.string b) := hb1.at_ 0
        have R1 : Hid (Has w1 w.heap.size 138 #[.string ⟨#[]⟩, .string ⟨#[]⟩]) := HZ.out.kept hw1 (by omega)
        have c2 : w1.cell? ⟨w.heap.size, 0, none⟩ = some (.string ⟨#[]⟩) := R1.out.at_ 0
        have c3 : w1.cell? ⟨w.heap.size, 1, none⟩ = some (.string ⟨#[]⟩) := R1.out.at_ 1
        have f2 := R1.out.free 0
        have f3 := R1.out.free 1
        have W1 := hid hw1
        clear hb1 hw1))
    refine bodyPost_ret (results_cell_row rfl _ _ w.heap.size 138 #[.string ⟨#[]⟩, .string ⟨#[]⟩] (0, 0) _ rfl ((R1.out.put 0 _).put 1 _) Tryz.underlying138 rfl iPlace) rfl ⟨by rw [HF.out]; rfl, ?_⟩
    exact ((((Below.refl _ _).alloc (Nat.le_refl _) _).trans (W1.out.mono (by omega))).setCell (Nat.le_refl _) _).setCell (Nat.le_refl _) _
   | true =>
    have hgood : goodB (tl s) = true := by rw [← goodB_each, HR.out]
    have hlast : tl b = lastP (tl s) := by rw [← goodB_base _ hgood, HR.out, ← HB.out]; rfl
    have hah : aheadL (tl s) = (tl s).take k := by rw [aheadL, HK.out, ← hlast, tl_length, tl_length]
    have HS : Hid (b = ba (lastP (tl s))) := by show _ = _; rw [← hlast, ba_tl]
    by_cases h111 : k ≤ 111
    · have HF : Hid (findV (tl s) = ((tl s).take k, lastP (tl s))) := by
       show _ = _
       rw [findV_yes, hah]
       rw [mayB, hgood, tl_length, hah, List.length_take, tl_length, decide_eq_true h160, decide_eq_true (by omega)]; rfl
      have g3 : ((min k s.size : Nat) : Int) ≤ 111 := by omega
      clear hgood hlast hah h111
      go_enter Tryz.func80, Tryz.ntmps80
      go_wp2_with (first
       | (go_at_call 123; refine (HE.out _ (Has.more (Has.fresh' _ _ _ (by simp)) _) (Has.fresh' _ _ _ (by simp)) ((Below.refl _ _).alloc (by simp) _ |>.alloc (by simp) _)).mono ?_; rintro e1 w1 ⟨rfl, hb1, hw1⟩
          have c1 : w1.cell? ⟨w.heap.size + 1, 0, none⟩ = some (.string b) := hb1.at_ 0
          have R1 : Hid (Has w1 w.heap.size 138 #[.string ⟨#[]⟩, .string ⟨#[]⟩]) := HZ.out.kept hw1 (by omega)
          have c2 : w1.cell? ⟨w.heap.size, 0, none⟩ = some (.string ⟨#[]⟩) := R1.out.at_ 0
          have c3 : w1.cell? ⟨w.heap.size, 1, none⟩ = some (.string ⟨#[]⟩) := R1.out.at_ 1
          have f2 := R1.out.free 0
          have f3 := R1.out.free 1
          have W1 := hid hw1
          clear hb1 hw1))
      refine bodyPost_ret (results_cell_row rfl _ _ w.heap.size 138 _ (0, 0) _ rfl ((R1.out.put 0 _).put 1 _) Tryz.underlying138 rfl iPlace) rfl ⟨?_, ?_⟩
      · rw [HF.out]
        show Ending.returned (.agg #[.string (s.extract 0 k), .string b]) = _
        rw [ba_take, HS.out]
      · exact ((((Below.refl _ _).alloc (Nat.le_refl _) _).trans (W1.out.mono (by omega))).setCell (Nat.le_refl _) _).setCell (Nat.le_refl _) _
    · have HF : Hid (findV (tl s) = ([], [])) := by
       show _ = _
       rw [findV_no]
       rw [mayB, hgood, tl_length, hah, List.length_take, tl_length, decide_eq_true h160, decide_eq_false (by have := HK.out; omega)]; rfl
      have g3 : ¬ (((min k s.size : Nat) : Int) ≤ 111) := by have := HK.out; omega
      clear hgood hlast hah h111
      go_enter Tryz.func80, Tryz.ntmps80
      go_wp2_with (first
       | (go_at_call 123; refine (HE.out _ (Has.more (Has.fresh' _ _ _ (by simp)) _) (Has.fresh' _ _ _ (by simp)) ((Below.refl _ _).alloc (by simp) _ |>.alloc (by simp) _)).mono ?_; rintro e1 w1 ⟨rfl, hb1, hw1⟩
          have c1 : w1.cell? ⟨w.heap.size + 1, 0, none⟩ = some (.string b) := hb1.at_ 0
          have R1 : Hid (Has w1 w.heap.size 138 #[.string ⟨#[]⟩, .string ⟨#[]⟩]) := HZ.out.kept hw1 (by omega)
          have c2 : w1.cell? ⟨w.heap.size, 0, none⟩ = some (.string ⟨#[]⟩) := R1.out.at_ 0
          have c3 : w1.cell? ⟨w.heap.size, 1, none⟩ = some (.string ⟨#[]⟩) := R1.out.at_ 1
          have f2 := R1.out.free 0
          have f3 := R1.out.free 1
          have W1 := hid hw1
          clear hb1 hw1))
      refine bodyPost_ret (results_cell_row rfl _ _ w.heap.size 138 #[.string ⟨#[]⟩, .string ⟨#[]⟩] (0, 0) _ rfl ((R1.out.put 0 _).put 1 _) Tryz.underlying138 rfl iPlace) rfl ⟨by rw [HF.out]; rfl, ?_⟩
      exact ((((Below.refl _ _).alloc (Nat.le_refl _) _).trans (W1.out.mono (by omega))).setCell (Nat.le_refl _) _).setCell (Nat.le_refl _) _
 · have g1 : (160 : Int) < (s.size : Int) := by omega
   have hf : mayB (tl s) = false := by simp [mayB, h160]
   have HF := hid (findV_no hf)
   clear hf hG
   go_enter Tryz.func80, Tryz.ntmps80
   go_wp2
   refine bodyPost_ret (results_cell_row rfl _ _ w.heap.size 138 #[.string ⟨#[]⟩, .string ⟨#[]⟩] (0, 0) _ rfl (Has.fresh _ _ _) Tryz.underlying138 rfl iPlace) rfl ⟨by rw [HF.out]; rfl, ?_⟩
   exact (Below.refl _ _).alloc (Nat.le_refl _) _
end Go.Proofs.YtabidnlbgdecbaaGreatDoor
namespace Go.Proofs.YtabidnlbgdecbaaGreatDoor
open Go.RowKit
theorem find_no (s : ByteArray) (h : mayB (tl s) = false) (w : World) (hG : Gd w) (hs : s.size ≤ 4000) :
 Calls Tryz.prog 80 #[.string s] w fun e w' => e = .returned (.agg #[.string ⟨#[]⟩, .string ⟨#[]⟩]) ∧ Below w.heap.size w w' := by
 have := find_any s w hG hs
 rw [findV_no h] at this; exact this
theorem find_yes (s a b : ByteArray) (h : Hid (mayB (tl s) = true ∧ ba (aheadL (tl s)) = a ∧ ba (lastP (tl s)) = b)) (w : World) (hG : Gd w) (hs : s.size ≤ 4000) :
 Calls Tryz.prog 80 #[.string s] w fun e w' => e = .returned (.agg #[.string a, .string b]) ∧ Below w.heap.size w w' := by
 have := find_any s w hG hs
 rw [findV_yes h.out.1, plc, h.out.2.1, h.out.2.2] at this; exact this
theorem last_ne {s b : ByteArray} (h : mayB (tl s) = true) (hb : ba (lastP (tl s)) = b) : ¬ b.toList = [] := by
 rw [toList_tl, ← hb, tl_ba]; exact mayB_last h
set_option maxHeartbeats 400000 in
theorem may_any (s : ByteArray) (w : World) (hG : Gd w) (hs : s.size ≤ 4000) :
 Calls Tryz.prog 39 #[.string s] w fun e w' => e = .returned (.bool (mayB (tl s))) ∧ Below w.heap.size w w' := by
 have HG := hid hG
 clear hG
 cases hm : mayB (tl s) with
 | false =>
  have HM := hid hm
  clear hm
  go_enter Tryz.func39, Tryz.ntmps39
  go_wp2_with (go_at_call 80; refine (find_no s HM.out _ HG.out hs).mono ?_; rintro e1 w1 ⟨rfl, hb1⟩; have B1 := hid hb1; clear hb1)
  go_ret
  exact ⟨rfl, B1.out⟩
 | true =>
  obtain ⟨a, b, HV⟩ : ∃ a b, Hid (mayB (tl s) = true ∧ ba (aheadL (tl s)) = a ∧ ba (lastP (tl s)) = b) := ⟨_, _, hm, rfl, rfl⟩
  have hb : ¬ b.toList = [] := last_ne hm HV.out.2.2
  clear hm
  by_cases ha : a.toList = []
  all_goals
   go_enter Tryz.func39, Tryz.ntmps39
   go_wp2_with (go_at_call 80; refine (find_yes s a b HV _ HG.out hs).mono ?_; rintro e1 w1 ⟨rfl, hb1⟩; have B1 := hid hb1; clear hb1)
   go_ret
   exact ⟨rfl, B1.out⟩
set_option maxHeartbeats 400000 in
theorem parent_any (s : ByteArray) (w : World) (hG : Gd w) (hs : s.size ≤ 4000) :
 Calls Tryz.prog 135 #[.string s] w fun e w' => e = .returned (.tuple #[.string (ba (findV (tl s)).1), .bool (mayB (tl s))]) ∧ Below w.heap.size w w' := by
 have HG := hid hG
 clear hG
 cases hm : mayB (tl s) with
 | false =>
  have HM := hid hm
  have HF := hid (findV_no hm)
  clear hm
  go_enter Tryz.func135, Tryz.ntmps135
  go_wp2_with (go_at_call 80; refine (find_no s HM.out _ HG.out hs).mono ?_; rintro e1 w1 ⟨rfl, hb1⟩; have B1 := hid hb1; clear hb1)
  go_quiet (fail)
  go_wp2
  go_ret2
  exact ⟨by rw [HF.out]; rfl, (B1.out.alloc B1.out.size _).drewN' _⟩
 | true =>
  obtain ⟨a, b, HV⟩ : ∃ a b, Hid (mayB (tl s) = true ∧ ba (aheadL (tl s)) = a ∧ ba (lastP (tl s)) = b) := ⟨_, _, hm, rfl, rfl⟩
  have hb : ¬ b.toList = [] := last_ne hm HV.out.2.2
  have HF := hid (findV_yes hm)
  clear hm
  by_cases ha : a.toList = []
  all_goals
   go_enter Tryz.func135, Tryz.ntmps135
   go_wp2_with (go_at_call 80; refine (find_yes s a b HV _ HG.out hs).mono ?_; rintro e1 w1 ⟨rfl, hb1⟩; have B1 := hid hb1; clear hb1)
   go_quiet (fail)
   go_wp2
   go_ret2
   exact ⟨by rw [HF.out]; simp only [HV.out.2.1]; rfl, (B1.out.alloc B1.out.size _).drewN' _⟩
def withinB (p d : List UInt8) : Bool := if d = [] then mayB p else mayB p && mayB d && (d ++ [47]).isPrefixOf p
end Go.Proofs.YtabidnlbgdecbaaGreatDoor
namespace Go.Proofs.YtabidnlbgdecbaaGreatDoor
open Go.RowKit
theorem aheadL_len (l : List UInt8) : (aheadL l).length ≤ l.length := by rw [aheadL, List.length_take]; omega
theorem cmpL_vals (a b : List UInt8) : cmpL a b = -1 ∨ cmpL a b = 0 ∨ cmpL a b = 1 := by
 fun_induction cmpL a b <;> simp_all
theorem rk_inj {x y : UInt8} (h : rk x = rk y) : x = y := by
 unfold rk at h
 split at h <;> split at h
 · simp_all
 · omega
 · omega
 · exact UInt8.toNat_inj.1 (by omega)
theorem cmpL_self (a : List UInt8) : cmpL a a = 0 := by
 induction a with
 | nil => rfl
 | cons x a ih => rw [cmpL, if_pos rfl, ih]
theorem cmpL_neg (a b : List UInt8) : cmpL b a = -cmpL a b := by
 induction a generalizing b with
 | nil => cases b <;> simp [cmpL]
 | cons x a ih =>
  cases b with
  | nil => simp [cmpL]
  | cons y b =>
   rw [cmpL, cmpL]
   by_cases h : x = y
   · subst h; rw [if_pos rfl, if_pos rfl, ih]
   · rw [if_neg h, if_neg (Ne.symm h)]
     have : rk x ≠ rk y := fun e => h (rk_inj e)
     split <;> split <;> first | omega | rfl
theorem cmpL_zero (a b : List UInt8) : cmpL a b = 0 ↔ a = b := by
 constructor
 · intro h
   induction a generalizing b with
   | nil => cases b <;> simp [cmpL] at h ⊢
   | cons x a ih =>
    cases b with
    | nil => simp [cmpL] at h
    | cons y b =>
     rw [cmpL] at h
     split at h
     · rename_i e; rw [e, ih b h]
     · split at h <;> simp at h
 · rintro rfl; exact cmpL_self a
theorem cmpL_trans (a b c : List UInt8) (h1 : cmpL a b = -1) (h2 : cmpL b c = -1) : cmpL a c = -1 := by
 induction a generalizing b c with
 | nil =>
  cases c with
  | nil => cases b <;> simp [cmpL] at h1 h2
  | cons z c => rfl
 | cons x a ih =>
  cases b with
  | nil => simp [cmpL] at h1
  | cons y b =>
   cases c with
   | nil => simp [cmpL] at h2
   | cons z c =>
    rw [cmpL] at h1 h2 ⊢
    by_cases h : x = y
    · subst h
      rw [if_pos rfl] at h1
      by_cases h' : x = z
      · subst h'; rw [if_pos rfl] at h2 ⊢; exact ih b c h1 h2
      · rw [if_neg h'] at h2 ⊢; exact h2
    · rw [if_neg h] at h1
      by_cases h' : y = z
      · subst h'; rw [if_neg h]; exact h1
      · rw [if_neg h'] at h2
        have l1 : rk x < rk y := by split at h1; assumption; simp at h1
        have l2 : rk y < rk z := by split at h2; assumption; simp at h2
        have hne : x ≠ z := by rintro rfl; omega
        rw [if_neg hne, if_pos (by omega)]
end Go.Proofs.YtabidnlbgdecbaaGreatDoor
namespace Go.Proofs.YtabidnlbgdecbaaGreatDoor
open Go.RowKit
theorem prefix_join (d r : List UInt8) : (d ++ [47]).isPrefixOf (d ++ 47 :: r) = true :=
 List.isPrefixOf_iff_prefix.2 ⟨r, by simp⟩
theorem mayB_nil : mayB [] = false := by decide +kernel
theorem withinB_mk {p d : List UInt8} (hp : mayB p = true) (hd : mayB d = true) (h : ∃ r, p = d ++ 47 :: r) : withinB p d = true := by
 have h0 : d ≠ [] := by rintro rfl; rw [mayB_nil] at hd; cases hd
 obtain ⟨r, hr⟩ := h
 rw [withinB, if_neg h0, hp, hd, hr, prefix_join]; rfl
end Go.Proofs.YtabidnlbgdecbaaGreatDoor
namespace Go.Proofs.YtabidnlbgdecbaaGreatDoor
open Go.RowKit
theorem split_last (l : List UInt8) : pieces l = [l] ∨ ∃ a b, l = a ++ 47 :: b ∧ pieces l = pieces a ++ [b] := by
 induction l with
 | nil => exact .inl rfl
 | cons c l ih =>
  by_cases hc : c = 47
  · subst hc
    rcases ih with h | ⟨a, b, h1, h2⟩
    · exact .inr ⟨[], l, rfl, by rw [show pieces (47 :: l) = [] :: pieces l by rw [pieces, if_pos rfl], h]; rfl⟩
    · exact .inr ⟨47 :: a, b, by rw [h1]; rfl, by rw [pieces, if_pos rfl, h2, pieces, if_pos rfl]; rfl⟩
  · rcases ih with h | ⟨a, b, h1, h2⟩
    · exact .inl (by rw [pieces, if_neg hc, h])
    · refine .inr ⟨c :: a, b, by rw [h1]; rfl, ?_⟩
      rw [pieces, if_neg hc, h2, pieces, if_neg hc]
      cases hp : pieces a with
      | nil => exact absurd hp (pieces_ne a)
      | cons p ps => rfl
theorem lastP_one {l : List UInt8} (h : pieces l = [l]) : lastP l = l := by
 have : ∀ (ps : List (List UInt8)) (hne : ps ≠ []), ps = [l] → ps.getLast hne = l := by rintro ps hne rfl; rfl
 exact this _ _ h
theorem lastP_two {l a b : List UInt8} (h : pieces l = pieces a ++ [b]) : lastP l = b := by
 have : ∀ (ps : List (List UInt8)) (hne : ps ≠ []), ps = pieces a ++ [b] → ps.getLast hne = b := by rintro ps hne rfl; simp
 exact this _ _ h
theorem aheadL_one {l : List UInt8} (h : pieces l = [l]) : aheadL l = [] := by rw [aheadL, lastP_one h]; simp
theorem aheadL_two {l a b : List UInt8} (h1 : l = a ++ 47 :: b) (h : pieces l = pieces a ++ [b]) : aheadL l = a := by
 rw [aheadL, lastP_two h, h1, List.length_append, List.length_cons, show a.length + (b.length + 1) - b.length - 1 = a.length by omega, List.take_left]
theorem may_parts {l : List UInt8} (h : mayB l = true) : l.length ≤ 160 ∧ (pieces l).length ≤ 6 ∧ (pieces l).all nameB = true ∧ (aheadL l).length ≤ 111 := by
 unfold mayB goodB at h
 simp only [Bool.and_eq_true, decide_eq_true_eq] at h
 exact ⟨h.1.1, h.1.2.1, h.1.2.2, h.2⟩
theorem may_of {l : List UInt8} (h1 : l.length ≤ 160) (h2 : (pieces l).length ≤ 6) (h3 : (pieces l).all nameB = true) (h4 : (aheadL l).length ≤ 111) : mayB l = true := by
 unfold mayB goodB
 simp only [Bool.and_eq_true, decide_eq_true_eq]
 exact ⟨⟨h1, h2, h3⟩, h4⟩
theorem may_split {l : List UInt8} (h : mayB l = true) : (aheadL l = [] ∧ lastP l = l ∧ (pieces l).length = 1) ∨ (aheadL l ≠ [] ∧ l = aheadL l ++ 47 :: lastP l ∧ mayB (aheadL l) = true ∧ withinB l (aheadL l) = true) := by
 obtain ⟨h1, h2, h3, h4⟩ := may_parts h
 rcases split_last l with e | ⟨a, b, e1, e2⟩
 · exact .inl ⟨aheadL_one e, lastP_one e, by rw [e]; rfl⟩
 · right
   have ha := aheadL_two e1 e2
   have hb := lastP_two e2
   rw [e2, List.all_append] at h3
   simp only [Bool.and_eq_true] at h3
   have hne : a ≠ [] := by
    rintro rfl
    have := h3.1
    simp [pieces, nameB, headB] at this
   rw [ha] at h4 ⊢
   have hm : mayB a = true := may_of (by omega) (by rw [e2, List.length_append] at h2; omega) h3.1 (Nat.le_trans (aheadL_len a) h4)
   exact ⟨hne, by rw [hb]; exact e1, hm, withinB_mk h hm ⟨b, e1⟩⟩
end Go.Proofs.YtabidnlbgdecbaaGreatDoor
