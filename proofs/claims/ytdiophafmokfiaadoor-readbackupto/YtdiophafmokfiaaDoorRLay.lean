/-
  What the reader asks of Go's library, out of the shelf's contracts: white space cut off, a sign among signs, numbers read and written.
-/
import Derived.Test.YtdiophafmokfiaaDoorRWalk6
import Derived.Ground.NamesProg
import Derived.Shelf.Strings.SlTrimAscii
import Derived.Shelf.Strings.Search1
import Derived.Shelf.LaysM
import Derived.Shelf.LaysC
import Derived.Shelf.Strconv.Itoa3
import Derived.Shelf.Strconv.AtoiAll
import Derived.Shelf.Strconv.ErrVarAll
namespace Go.Proofs
open Go.Shelf
def Tryd.lays161_ren : Go.Shelf.Ren := ⟨fun | 161 => 92 | 231 => 60 | 227 => 62 | 233 => 63 | 235 => 65 | 228 => 84 | 197 => 85 | 151 => 86 | 260 => 113 | 152 => 114 | 137 => 120 | 119 => 129 | 224 => 130 | 225 => 131 | 217 => 134 | 266 => 144 | n => n, fun | 9 => 9 | 4 => 4 | 3 => 3 | 5 => 5 | 117 => 109 | 116 => 108 | 0 => 0 | 124 => 112 | 105 => 137 | 21 => 21 | 119 => 167 | 46 => 168 | 139 => 171 | 138 => 170 | n => n, fun | 3 => 0 | 4 => 1 | n => n⟩
theorem Tryd.lays161 : Go.Proofs.Lays.n161 Tryd.prog Tryd.lays161_ren := {
  mixed := by kernel_rfl
  f119 := Tryd.func129.trans (congrArg some (by kernel_rfl))
  f137 := Tryd.func120.trans (congrArg some (by kernel_rfl))
  f151 := Tryd.func86.trans (congrArg some (by kernel_rfl))
  f152 := Tryd.func114.trans (congrArg some (by kernel_rfl))
  f161 := Tryd.func92.trans (congrArg some (by kernel_rfl))
  f197 := Tryd.func85.trans (congrArg some (by kernel_rfl))
  f217 := Tryd.func134.trans (congrArg some (by kernel_rfl))
  f224 := Tryd.func130.trans (congrArg some (by kernel_rfl))
  f225 := Tryd.func131.trans (congrArg some (by kernel_rfl))
  f227 := Tryd.func62.trans (congrArg some (by kernel_rfl))
  f228 := Tryd.func84.trans (congrArg some (by kernel_rfl))
  f231 := Tryd.func60.trans (congrArg some (by kernel_rfl))
  f233 := Tryd.func63.trans (congrArg some (by kernel_rfl))
  f235 := Tryd.func65.trans (congrArg some (by kernel_rfl))
  f260 := Tryd.func113.trans (congrArg some (by kernel_rfl))
  f266 := Tryd.func144.trans (congrArg some (by kernel_rfl))
  t0 := Tryd.underlying0
  a0 := Tryd.isAgg0
  z0 := Tryd.sizeOf0
  v0 := Tryd.zeroValue0
  t3 := Tryd.underlying3
  a3 := Tryd.isAgg3
  z3 := Tryd.sizeOf3
  v3 := Tryd.zeroValue3
  t4 := Tryd.underlying4
  a4 := Tryd.isAgg4
  z4 := Tryd.sizeOf4
  v4 := Tryd.zeroValue4
  t5 := Tryd.underlying5
  a5 := Tryd.isAgg5
  z5 := Tryd.sizeOf5
  v5 := Tryd.zeroValue5
  t9 := Tryd.underlying9
  a9 := Tryd.isAgg9
  z9 := Tryd.sizeOf9
  v9 := Tryd.zeroValue9
  t21 := Tryd.underlying21
  a21 := Tryd.isAgg21
  z21 := Tryd.sizeOf21
  v21 := Tryd.zeroValue21
  t46 := Tryd.underlying168
  a46 := Tryd.isAgg168
  z46 := Tryd.sizeOf168
  v46 := Tryd.zeroValue168
  t105 := Tryd.underlying137
  a105 := Tryd.isAgg137
  z105 := Tryd.sizeOf137
  v105 := Tryd.zeroValue137
  t116 := Tryd.underlying108
  a116 := Tryd.isAgg108
  z116 := Tryd.sizeOf108
  t117 := Tryd.underlying109
  a117 := Tryd.isAgg109
  z117 := Tryd.sizeOf109
  v117 := Tryd.zeroValue109
  t119 := Tryd.underlying167
  a119 := Tryd.isAgg167
  z119 := Tryd.sizeOf167
  t124 := Tryd.underlying112
  a124 := Tryd.isAgg112
  z124 := Tryd.sizeOf112
  v124 := Tryd.zeroValue112
  t138 := Tryd.underlying170
  a138 := Tryd.isAgg170
  z138 := Tryd.sizeOf170
  v138 := Tryd.zeroValue170
  t139 := Tryd.underlying171
  a139 := Tryd.isAgg171
  z139 := Tryd.sizeOf171
  v139 := Tryd.zeroValue171
  g3 := by kernel_rfl
  g4 := by kernel_rfl }
def Tryd.lays137_ren : Go.Shelf.Ren := ⟨fun | 137 => 120 | 217 => 134 | 266 => 144 | n => n, fun | 9 => 9 | 5 => 5 | 3 => 3 | n => n, fun | n => n⟩
theorem Tryd.lays137 : Go.Proofs.Lays.n137 Tryd.prog Tryd.lays137_ren := {
  mixed := by kernel_rfl
  f137 := Tryd.func120.trans (congrArg some (by kernel_rfl))
  f217 := Tryd.func134.trans (congrArg some (by kernel_rfl))
  f266 := Tryd.func144.trans (congrArg some (by kernel_rfl))
  t3 := Tryd.underlying3
  a3 := Tryd.isAgg3
  z3 := Tryd.sizeOf3
  v3 := Tryd.zeroValue3
  t5 := Tryd.underlying5
  a5 := Tryd.isAgg5
  z5 := Tryd.sizeOf5
  v5 := Tryd.zeroValue5
  t9 := Tryd.underlying9
  a9 := Tryd.isAgg9
  z9 := Tryd.sizeOf9
  v9 := Tryd.zeroValue9 }
def Tryd.laysM171_ren : Go.Shelf.Ren := ⟨fun | 171 => 91 | 243 => 117 | 246 => 132 | 283 => 140 | 284 => 141 | 285 => 142 | 286 => 143 | 129 => 152 | 317 => 151 | 318 => 153 | 319 => 154 | 320 => 155 | 337 => 159 | 338 => 160 | n => n, fun | 3 => 3 | 9 => 9 | 2 => 2 | 4 => 4 | 171 => 180 | 0 => 0 | 53 => 181 | 37 => 70 | 5 => 5 | 173 => 184 | 212 => 193 | 51 => 194 | 20 => 20 | 213 => 195 | 46 => 168 | 232 => 209 | 233 => 210 | n => n, fun | 17 => 3 | 18 => 6 | 19 => 7 | n => n⟩
theorem Tryd.laysM171 : Go.Proofs.LaysM.n171 Tryd.prog Tryd.laysM171_ren := {
  mixed := by kernel_rfl
  f129 := Tryd.func152.trans (congrArg some (by kernel_rfl))
  f171 := Tryd.func91.trans (congrArg some (by kernel_rfl))
  f243 := Tryd.func117.trans (congrArg some (by kernel_rfl))
  f246 := Tryd.func132.trans (congrArg some (by kernel_rfl))
  f283 := Tryd.func140.trans (congrArg some (by kernel_rfl))
  f284 := Tryd.func141.trans (congrArg some (by kernel_rfl))
  f285 := Tryd.func142.trans (congrArg some (by kernel_rfl))
  f286 := Tryd.func143.trans (congrArg some (by kernel_rfl))
  f317 := Tryd.func151.trans (congrArg some (by kernel_rfl))
  f318 := Tryd.func153.trans (congrArg some (by kernel_rfl))
  f319 := Tryd.func154.trans (congrArg some (by kernel_rfl))
  f320 := Tryd.func155.trans (congrArg some (by kernel_rfl))
  f337 := Tryd.func159.trans (congrArg some (by kernel_rfl))
  f338 := Tryd.func160.trans (congrArg some (by kernel_rfl))
  t0 := Tryd.underlying0
  a0 := Tryd.isAgg0
  z0 := Tryd.sizeOf0
  v0 := Tryd.zeroValue0
  t2 := Tryd.underlying2
  a2 := Tryd.isAgg2
  z2 := Tryd.sizeOf2
  v2 := Tryd.zeroValue2
  t3 := Tryd.underlying3
  a3 := Tryd.isAgg3
  z3 := Tryd.sizeOf3
  v3 := Tryd.zeroValue3
  t4 := Tryd.underlying4
  a4 := Tryd.isAgg4
  z4 := Tryd.sizeOf4
  v4 := Tryd.zeroValue4
  t5 := Tryd.underlying5
  a5 := Tryd.isAgg5
  z5 := Tryd.sizeOf5
  v5 := Tryd.zeroValue5
  t9 := Tryd.underlying9
  a9 := Tryd.isAgg9
  z9 := Tryd.sizeOf9
  v9 := Tryd.zeroValue9
  t20 := Tryd.underlying20
  a20 := Tryd.isAgg20
  z20 := Tryd.sizeOf20
  v20 := Tryd.zeroValue20
  t37 := Tryd.underlying70
  a37 := Tryd.isAgg70
  z37 := Tryd.sizeOf70
  v37 := Tryd.zeroValue70
  t46 := Tryd.underlying168
  a46 := Tryd.isAgg168
  z46 := Tryd.sizeOf168
  v46 := Tryd.zeroValue168
  t51 := Tryd.underlying194
  a51 := Tryd.isAgg194
  z51 := Tryd.sizeOf194
  v51 := Tryd.zeroValue194
  t53 := Tryd.underlying181
  a53 := Tryd.isAgg181
  z53 := Tryd.sizeOf181
  v53 := Tryd.zeroValue181
  t171 := Tryd.underlying180
  a171 := Tryd.isAgg180
  z171 := Tryd.sizeOf180
  v171 := Tryd.zeroValue180
  t173 := Tryd.underlying184
  a173 := Tryd.isAgg184
  z173 := Tryd.sizeOf184
  v173 := Tryd.zeroValue184
  t212 := Tryd.underlying193
  a212 := Tryd.isAgg193
  z212 := Tryd.sizeOf193
  v212 := Tryd.zeroValue193
  t213 := Tryd.underlying195
  a213 := Tryd.isAgg195
  z213 := Tryd.sizeOf195
  t232 := Tryd.underlying209
  a232 := Tryd.isAgg209
  z232 := Tryd.sizeOf209
  v232 := Tryd.zeroValue209
  t233 := Tryd.underlying210
  a233 := Tryd.isAgg210
  z233 := Tryd.sizeOf210
  v233 := Tryd.zeroValue210
  g17 := by kernel_rfl
  g18 := by kernel_rfl
  g19 := by kernel_rfl
  i0 := by kernel_rfl
  i2 := by kernel_rfl
  i3 := by kernel_rfl
  i4 := by kernel_rfl
  i5 := by kernel_rfl
  i9 := by kernel_rfl
  i20 := by kernel_rfl
  i37 := by kernel_rfl
  i46 := by kernel_rfl
  i51 := by kernel_rfl
  i53 := by kernel_rfl
  i171 := by kernel_rfl
  i173 := by kernel_rfl
  i212 := by kernel_rfl
  i232 := by kernel_rfl
  i233 := by kernel_rfl
  m17 := by kernel_rfl
  m18 := by kernel_rfl
  m19 := by kernel_rfl }
def Tryd.laysC172_ren : Go.Shelf.Ren := ⟨fun | 172 => 122 | 244 => 135 | 245 => 136 | 247 => 145 | 279 => 146 | 280 => 147 | 281 => 148 | 282 => 149 | 287 => 156 | 316 => 157 | 171 => 91 | 205 => 158 | 321 => 161 | 322 => 162 | 243 => 117 | 246 => 132 | 283 => 140 | 284 => 141 | 285 => 142 | 286 => 143 | 129 => 152 | 317 => 151 | 318 => 153 | 319 => 154 | 320 => 155 | 337 => 159 | 338 => 160 | n => n, fun | 9 => 9 | 3 => 3 | 75 => 115 | 76 => 116 | 4 => 4 | 5 => 5 | 167 => 186 | 37 => 70 | 0 => 0 | 85 => 187 | 2 => 2 | 168 => 189 | 53 => 181 | 175 => 198 | 46 => 168 | 210 => 202 | 127 => 122 | 145 => 208 | 143 => 206 | 21 => 21 | 171 => 180 | 173 => 184 | 212 => 193 | 51 => 194 | 20 => 20 | 213 => 195 | 232 => 209 | 233 => 210 | 80 => 77 | n => n, fun | 15 => 4 | 16 => 5 | 17 => 3 | 18 => 6 | 19 => 7 | n => n⟩
theorem Tryd.laysC172 : Go.Proofs.LaysC.n172 Tryd.prog Tryd.laysC172_ren := {
  mixed := by kernel_rfl
  f129 := Tryd.func152.trans (congrArg some (by kernel_rfl))
  f171 := Tryd.func91.trans (congrArg some (by kernel_rfl))
  f172 := Tryd.func122.trans (congrArg some (by kernel_rfl))
  f205 := Tryd.func158.trans (congrArg some (by kernel_rfl))
  f243 := Tryd.func117.trans (congrArg some (by kernel_rfl))
  f244 := Tryd.func135.trans (congrArg some (by kernel_rfl))
  f245 := Tryd.func136.trans (congrArg some (by kernel_rfl))
  f246 := Tryd.func132.trans (congrArg some (by kernel_rfl))
  f247 := Tryd.func145.trans (congrArg some (by kernel_rfl))
  f279 := Tryd.func146.trans (congrArg some (by kernel_rfl))
  f280 := Tryd.func147.trans (congrArg some (by kernel_rfl))
  f281 := Tryd.func148.trans (congrArg some (by kernel_rfl))
  f282 := Tryd.func149.trans (congrArg some (by kernel_rfl))
  f283 := Tryd.func140.trans (congrArg some (by kernel_rfl))
  f284 := Tryd.func141.trans (congrArg some (by kernel_rfl))
  f285 := Tryd.func142.trans (congrArg some (by kernel_rfl))
  f286 := Tryd.func143.trans (congrArg some (by kernel_rfl))
  f287 := Tryd.func156.trans (congrArg some (by kernel_rfl))
  f316 := Tryd.func157.trans (congrArg some (by kernel_rfl))
  f317 := Tryd.func151.trans (congrArg some (by kernel_rfl))
  f318 := Tryd.func153.trans (congrArg some (by kernel_rfl))
  f319 := Tryd.func154.trans (congrArg some (by kernel_rfl))
  f320 := Tryd.func155.trans (congrArg some (by kernel_rfl))
  f321 := Tryd.func161.trans (congrArg some (by kernel_rfl))
  f322 := Tryd.func162.trans (congrArg some (by kernel_rfl))
  f337 := Tryd.func159.trans (congrArg some (by kernel_rfl))
  f338 := Tryd.func160.trans (congrArg some (by kernel_rfl))
  t0 := Tryd.underlying0
  a0 := Tryd.isAgg0
  z0 := Tryd.sizeOf0
  v0 := Tryd.zeroValue0
  t2 := Tryd.underlying2
  a2 := Tryd.isAgg2
  z2 := Tryd.sizeOf2
  v2 := Tryd.zeroValue2
  t3 := Tryd.underlying3
  a3 := Tryd.isAgg3
  z3 := Tryd.sizeOf3
  v3 := Tryd.zeroValue3
  t4 := Tryd.underlying4
  a4 := Tryd.isAgg4
  z4 := Tryd.sizeOf4
  v4 := Tryd.zeroValue4
  t5 := Tryd.underlying5
  a5 := Tryd.isAgg5
  z5 := Tryd.sizeOf5
  v5 := Tryd.zeroValue5
  t9 := Tryd.underlying9
  a9 := Tryd.isAgg9
  z9 := Tryd.sizeOf9
  v9 := Tryd.zeroValue9
  t20 := Tryd.underlying20
  a20 := Tryd.isAgg20
  z20 := Tryd.sizeOf20
  v20 := Tryd.zeroValue20
  t21 := Tryd.underlying21
  a21 := Tryd.isAgg21
  z21 := Tryd.sizeOf21
  v21 := Tryd.zeroValue21
  t37 := Tryd.underlying70
  a37 := Tryd.isAgg70
  z37 := Tryd.sizeOf70
  v37 := Tryd.zeroValue70
  t46 := Tryd.underlying168
  a46 := Tryd.isAgg168
  z46 := Tryd.sizeOf168
  v46 := Tryd.zeroValue168
  t51 := Tryd.underlying194
  a51 := Tryd.isAgg194
  z51 := Tryd.sizeOf194
  v51 := Tryd.zeroValue194
  t53 := Tryd.underlying181
  a53 := Tryd.isAgg181
  z53 := Tryd.sizeOf181
  v53 := Tryd.zeroValue181
  t75 := Tryd.underlying115
  a75 := Tryd.isAgg115
  z75 := Tryd.sizeOf115
  v75 := Tryd.zeroValue115
  t76 := Tryd.underlying116
  a76 := Tryd.isAgg116
  z76 := Tryd.sizeOf116
  v76 := Tryd.zeroValue116
  t85 := Tryd.underlying187
  a85 := Tryd.isAgg187
  z85 := Tryd.sizeOf187
  v85 := Tryd.zeroValue187
  t127 := Tryd.underlying122
  a127 := Tryd.isAgg122
  z127 := Tryd.sizeOf122
  v127 := Tryd.zeroValue122
  t143 := Tryd.underlying206
  a143 := Tryd.isAgg206
  z143 := Tryd.sizeOf206
  v143 := Tryd.zeroValue206
  t145 := Tryd.underlying208
  a145 := Tryd.isAgg208
  z145 := Tryd.sizeOf208
  v145 := Tryd.zeroValue208
  t167 := Tryd.underlying186
  a167 := Tryd.isAgg186
  z167 := Tryd.sizeOf186
  v167 := Tryd.zeroValue186
  t168 := Tryd.underlying189
  a168 := Tryd.isAgg189
  z168 := Tryd.sizeOf189
  v168 := Tryd.zeroValue189
  t171 := Tryd.underlying180
  a171 := Tryd.isAgg180
  z171 := Tryd.sizeOf180
  v171 := Tryd.zeroValue180
  t173 := Tryd.underlying184
  a173 := Tryd.isAgg184
  z173 := Tryd.sizeOf184
  v173 := Tryd.zeroValue184
  t175 := Tryd.underlying198
  a175 := Tryd.isAgg198
  z175 := Tryd.sizeOf198
  v175 := Tryd.zeroValue198
  t210 := Tryd.underlying202
  a210 := Tryd.isAgg202
  z210 := Tryd.sizeOf202
  v210 := Tryd.zeroValue202
  t212 := Tryd.underlying193
  a212 := Tryd.isAgg193
  z212 := Tryd.sizeOf193
  v212 := Tryd.zeroValue193
  t213 := Tryd.underlying195
  a213 := Tryd.isAgg195
  z213 := Tryd.sizeOf195
  t232 := Tryd.underlying209
  a232 := Tryd.isAgg209
  z232 := Tryd.sizeOf209
  v232 := Tryd.zeroValue209
  t233 := Tryd.underlying210
  a233 := Tryd.isAgg210
  z233 := Tryd.sizeOf210
  v233 := Tryd.zeroValue210
  g15 := by kernel_rfl
  g16 := by kernel_rfl
  g17 := by kernel_rfl
  g18 := by kernel_rfl
  g19 := by kernel_rfl
  t80 := Tryd.underlying77
  a80 := Tryd.isAgg77
  z80 := Tryd.sizeOf77
  v80 := Tryd.zeroValue77
  i0 := by kernel_rfl
  i2 := by kernel_rfl
  i3 := by kernel_rfl
  i4 := by kernel_rfl
  i5 := by kernel_rfl
  i9 := by kernel_rfl
  i20 := by kernel_rfl
  i21 := by kernel_rfl
  i37 := by kernel_rfl
  i46 := by kernel_rfl
  i51 := by kernel_rfl
  i53 := by kernel_rfl
  i75 := by kernel_rfl
  i76 := by kernel_rfl
  i80 := by kernel_rfl
  i85 := by kernel_rfl
  i127 := by kernel_rfl
  i143 := by kernel_rfl
  i145 := by kernel_rfl
  i167 := by kernel_rfl
  i168 := by kernel_rfl
  i171 := by kernel_rfl
  i173 := by kernel_rfl
  i175 := by kernel_rfl
  i210 := by kernel_rfl
  i212 := by kernel_rfl
  i232 := by kernel_rfl
  i233 := by kernel_rfl
  m15 := by kernel_rfl
  m16 := by kernel_rfl
  m17 := by kernel_rfl
  m18 := by kernel_rfl
  m19 := by kernel_rfl
  c0 := by kernel_rfl
  c2 := by kernel_rfl
  c3 := by kernel_rfl
  c4 := by kernel_rfl
  c5 := by kernel_rfl
  c9 := by kernel_rfl
  c20 := by kernel_rfl
  c21 := by kernel_rfl
  c37 := by kernel_rfl
  c46 := by kernel_rfl
  c51 := by kernel_rfl
  c53 := by kernel_rfl
  c75 := by kernel_rfl
  c76 := by kernel_rfl
  c80 := by kernel_rfl
  c85 := by kernel_rfl
  c127 := by kernel_rfl
  c143 := by kernel_rfl
  c145 := by kernel_rfl
  c167 := by kernel_rfl
  c168 := by kernel_rfl
  c171 := by kernel_rfl
  c173 := by kernel_rfl
  c175 := by kernel_rfl
  c210 := by kernel_rfl
  c212 := by kernel_rfl
  c213 := by kernel_rfl
  c232 := by kernel_rfl
  c233 := by kernel_rfl }
end Go.Proofs
namespace Go.Proofs.YtdiophafmokfiaaDoor
open Go.RowKit Go.Shelf
set_option linter.unusedVariables false
set_option maxRecDepth 100000
set_option maxHeartbeats 1000000

theorem data_mk (l : Str) : (⟨l.toArray⟩ : ByteArray).data.toList = l := by simp
theorem lib2 : Lib2 := by
  intro l w hl
  have h := Any.strings_TrimLeft_laid Tryd.lays161 (by kernel_rfl) ⟨l.toArray⟩ ⟨#[32, 10, 13, 9]⟩ w (by decide) (ascii_of_all (by decide))
  refine Calls.mono h ?_
  rintro e w' ⟨rfl, hb⟩
  refine ⟨?_, hb⟩
  rw [data_mk]
  rfl
theorem sign_of (c : UInt8) : decide ((Lib.indexByte signs c) ≥ 0) = signs.contains c := by
  have h : ∀ n : Fin 256, decide ((Lib.indexByte signs (UInt8.ofNat n.val)) ≥ 0) = signs.contains (UInt8.ofNat n.val) := by decide +kernel
  have := h ⟨c.toNat, c.toNat_lt⟩
  simpa using this
theorem lib1 : Lib1 := by
  refine ⟨hasPrefix_any, fun c w => ?_⟩
  have h := Any.strings_IndexByte Tryd.lays137 ⟨signs.toArray⟩ (c.toNat : Int) w
  refine Calls.mono h ?_
  rintro e w' ⟨rfl, hw⟩
  refine ⟨⟨_, rfl, ?_⟩, hw⟩
  rw [data_mk]
  have : ((c.toNat : Nat) : Int).toNat.toUInt8 = c := by simp
  rw [this]
  exact sign_of c
/-- What a token of digits stands for. -/
def numM (tok : Str) : Option Int := match Lib.atoiAll tok with
  | .ok v => if Lib.itoa v = tok ∧ -1099511627776 ≤ v ∧ v ≤ 1099511627776 then some v else none
  | _ => none
/-- The library's variables. -/
structure GVars (w : World) : Prop where
  es : ∃ tp p, w.var? Tryd.prog "strconv.ErrSyntax" = some #[.iface tp p]
  er : ∃ tp p, w.var? Tryd.prog "strconv.ErrRange" = some #[.iface tp p]
  tab : Lib.TabIs Tryd.prog w "internal/strconv.uint64pow10" .u64 Lib.pow10Tab
theorem grow_below (w : World) (k : Nat) (os : Array Obj) : Below w.heap.size w (Go.Sort.grow (w.drewN k) os) := by
  refine ⟨rfl, rfl, rfl, ?_, fun j hj => ?_⟩
  · simp [Go.Sort.grow, World.drewN]
  · show (w.heap ++ os)[j]? = w.heap[j]?
    rw [Array.getElem?_append_left hj]
theorem atoi_range {l : Str} {v : Int} (h : Lib.atoiAll l = .ok v) : -9223372036854775808 ≤ v ∧ v ≤ 9223372036854775807 := by
  unfold Lib.atoiAll at h
  split at h
  · cases h
  · simp only at h
    split at h
    · cases h
    · cases h
    · split at h
      · cases h
      · split at h
        · cases h
        · rename_i h1 h2
          simp only [Lib.NumEnd.ok.injEq] at h
          subst h
          split <;> omega
theorem lib3 : Lib3 numM GVars := by
  intro tok s A vl vc M w0 w H F b hG hl hS
  have g := hG w hS.ext
  obtain ⟨tp, pp, hes⟩ := g.es
  obtain ⟨tp2, pp2, her⟩ := g.er
  have hsz : (⟨tok.toArray⟩ : ByteArray).size = tok.length := size_mk tok
  have bad : ∀ x : Int, (Calls Tryd.prog 122 #[sv tok] w fun e w' => ∃ N, e = .returned (.tuple #[.int .i64 x, .iface 189 (.pointer (some ⟨N, 0, none⟩))]) ∧ Below w.heap.size w w') → numM tok = none →
      Calls Tryd.prog 99 #[ptr b, sv tok] w fun e w' => e = .returned (.int .i64 (s.number numM tok).1) ∧ St M w0 ((b, rdr (s.number numM tok).2 (.slice A vl vc)) :: H) F w' := by
    intro x hc hn
    have e1 : s.number numM tok = (0, s.fail 1) := by simp only [RS.number, hn]
    rw [e1]
    refine goes_enter2 Tryd.func99 rfl Tryd.ntmps99 rfl ?_
    refine goes_seq ?_
    refine goes_region ?_
    refine lst_run (run_assign (by conv => lhs; whnf)) rfl ?_
    refine lst_done ?_
    refine goes_seq ?_
    refine goes_region ?_
    refine lst_run (run_move (by conv => lhs; whnf)) rfl ?_
    refine lst_enter (run_call (by kernel_rfl) (args_1 (by conv => lhs; whnf))) rfl ?_
    refine Calls.mono hc ?_
    rintro _ w1 ⟨N, rfl, hb1⟩
    refine ⟨_, rfl, ?_⟩
    replace hS := hS.grow hb1
    refine lst_run (run_move (by conv => lhs; whnf)) rfl ?_
    refine lst_run (run_extract rfl rfl) rfl ?_
    refine lst_run (run_extract rfl rfl) rfl ?_
    refine lst_run (run_assign (by conv => lhs; whnf)) rfl ?_
    refine lst_run (run_assign (by conv => lhs; whnf)) rfl ?_
    refine lst_done ?_
    refine goes_seq ?_
    refine goes_seq ?_
    refine goes_region ?_
    refine lst_run (run_move (by conv => lhs; whnf)) rfl ?_
    refine lst_run (rfl) rfl ?_
    refine lst_run (run_move (by conv => lhs; whnf)) rfl ?_
    refine lst_pass rfl rfl rfl ?_
    refine lst_pass rfl rfl rfl ?_
    refine lst_pass rfl rfl rfl ?_
    refine lst_pass rfl rfl rfl ?_
    first
      | refine lst_run (run_pick_t rfl (by conv => lhs; whnf)) rfl ?_
      | refine lst_run (run_pick_f rfl (by conv => lhs; whnf)) rfl ?_
    refine lst_run (run_move (by conv => lhs; whnf)) rfl ?_
    refine lst_pass rfl rfl rfl ?_
    refine lst_pass rfl rfl rfl ?_
    first
      | refine lst_run (run_pick_t rfl (by conv => lhs; whnf)) rfl ?_
      | refine lst_run (run_pick_f rfl (by conv => lhs; whnf)) rfl ?_
    refine lst_run (run_move (by conv => lhs; whnf)) rfl ?_
    refine lst_pass rfl rfl rfl ?_
    refine lst_pass rfl rfl rfl ?_
    first
      | refine lst_run (run_pick_t rfl (by conv => lhs; whnf)) rfl ?_
      | refine lst_run (run_pick_f rfl (by conv => lhs; whnf)) rfl ?_
    refine lst_done ?_
    refine goes_true rfl ?_
    refine goes_seq ?_
    refine goes_region ?_
    refine lst_run (run_move (by conv => lhs; whnf)) rfl ?_
    refine lst_enter (run_call (by kernel_rfl) (args_2 (by conv => lhs; whnf) (by conv => lhs; whnf))) rfl ?_
    refine Calls.mono (fail_any s 1 _ hS) ?_
    rintro _ w2 ⟨rfl, hS'⟩
    refine ⟨_, rfl, ?_⟩
    replace hS := hS'
    clear hS'
    refine lst_done ?_
    refine goes_seq ?_
    refine goes_region ?_
    refine lst_run (run_assign (by conv => lhs; whnf)) rfl ?_
    refine lst_done ?_
    refine goes_ret1 Tryd.func99 rfl (by conv => lhs; whnf) ?_
    exact ⟨rfl, hS⟩
  cases ha : Lib.atoiAll tok
  case ok v =>
    have hr := atoi_range ha
    have h1 := Any.strconv_Atoi_ok Tryd.laysC172 ⟨tok.toArray⟩ (by rw [hsz]; omega) v (by rw [data_mk]; exact ha) w
    have h1' : Calls Tryd.prog 122 #[sv tok] w fun e w' => e = .returned (.tuple #[.int .i64 v, .nilIface]) ∧ Below w.heap.size w w' := by
      refine Calls.mono h1 ?_
      rintro e w' ⟨rfl, rfl | ⟨t, rfl⟩⟩
      · exact ⟨rfl, Below.refl _ _⟩
      · exact ⟨rfl, Lib.bytesWorld_below _ _ _⟩
    clear h1
    have hit : ∀ w', GVars w' → Calls Tryd.prog 91 #[.int .i64 v] w' fun e w'' => e = .returned (sv (Lib.itoa v)) ∧ Below w'.heap.size w' w'' := by
      intro w' g'
      refine Calls.mono (Any.strconv_Itoa Tryd.laysM171 v hr.1 hr.2 w' g'.tab) ?_
      rintro e w'' ⟨rfl, k, os, rfl⟩
      exact ⟨rfl, grow_below _ _ _⟩
    have hn : numM tok = if Lib.itoa v = tok ∧ -1099511627776 ≤ v ∧ v ≤ 1099511627776 then some v else none := by simp only [numM, ha]
    refine goes_enter2 Tryd.func99 rfl Tryd.ntmps99 rfl ?_
    refine goes_seq ?_
    refine goes_region ?_
    refine lst_run (run_assign (by conv => lhs; whnf)) rfl ?_
    refine lst_done ?_
    refine goes_seq ?_
    refine goes_region ?_
    refine lst_run (run_move (by conv => lhs; whnf)) rfl ?_
    refine lst_enter (run_call (by kernel_rfl) (args_1 (by conv => lhs; whnf))) rfl ?_
    refine Calls.mono (h1') ?_
    rintro _ w1 ⟨rfl, hb1⟩
    refine ⟨_, rfl, ?_⟩
    replace hS := hS.grow hb1
    refine lst_run (run_move (by conv => lhs; whnf)) rfl ?_
    refine lst_run (run_extract rfl rfl) rfl ?_
    refine lst_run (run_extract rfl rfl) rfl ?_
    refine lst_run (run_assign (by conv => lhs; whnf)) rfl ?_
    refine lst_run (run_assign (by conv => lhs; whnf)) rfl ?_
    refine lst_done ?_
    refine goes_seq ?_
    refine goes_seq ?_
    refine goes_region ?_
    refine lst_run (run_move (by conv => lhs; whnf)) rfl ?_
    refine lst_run (rfl) rfl ?_
    refine lst_run (run_move (by conv => lhs; whnf)) rfl ?_
    refine lst_guard rfl rfl ?_
    refine lst_run (run_move (by conv => lhs; whnf)) rfl ?_
    refine lst_guard rfl rfl ?_
    refine lst_enter (run_call (by kernel_rfl) (args_1 (by conv => lhs; whnf))) rfl ?_
    refine Calls.mono (hit _ (hG _ hS.ext)) ?_
    rintro _ w2 ⟨rfl, hb2⟩
    refine ⟨_, rfl, ?_⟩
    replace hS := hS.grow hb2
    refine lst_guard rfl rfl ?_
    refine lst_run (run_move (by conv => lhs; whnf)) rfl ?_
    refine lst_guard rfl rfl ?_
    first
      | refine lst_run (run_neq_str rfl rfl) rfl ?_
      | refine lst_run (rfl) rfl ?_
    first
      | refine lst_run (run_pick_t rfl (by conv => lhs; whnf)) rfl ?_
      | refine lst_run (run_pick_f rfl (by conv => lhs; whnf)) rfl ?_
    refine lst_run (run_move (by conv => lhs; whnf)) rfl ?_
    generalize hq : (Lib.itoa v != tok) = q
    cases q with
    | true =>
      have hne : ¬ Lib.itoa v = tok := by simpa using hq
      rw [if_neg (fun h => hne h.1)] at hn
      have e1 : s.number numM tok = (0, s.fail 1) := by simp only [RS.number, hn]
      rw [e1]
      refine lst_pass rfl rfl rfl ?_
      refine lst_pass rfl rfl rfl ?_
      first
        | refine lst_run (run_pick_t rfl (by conv => lhs; whnf)) rfl ?_
        | refine lst_run (run_pick_f rfl (by conv => lhs; whnf)) rfl ?_
      refine lst_run (run_move (by conv => lhs; whnf)) rfl ?_
      refine lst_pass rfl rfl rfl ?_
      refine lst_pass rfl rfl rfl ?_
      first
        | refine lst_run (run_pick_t rfl (by conv => lhs; whnf)) rfl ?_
        | refine lst_run (run_pick_f rfl (by conv => lhs; whnf)) rfl ?_
      refine lst_done ?_
      refine goes_true rfl ?_
      refine goes_seq ?_
      refine goes_region ?_
      refine lst_run (run_move (by conv => lhs; whnf)) rfl ?_
      refine lst_enter (run_call (by kernel_rfl) (args_2 (by conv => lhs; whnf) (by conv => lhs; whnf))) rfl ?_
      refine Calls.mono (fail_any s 1 _ hS) ?_
      rintro _ w3 ⟨rfl, hS'⟩
      refine ⟨_, rfl, ?_⟩
      replace hS := hS'
      clear hS'
      refine lst_done ?_
      refine goes_seq ?_
      refine goes_region ?_
      refine lst_run (run_assign (by conv => lhs; whnf)) rfl ?_
      refine lst_done ?_
      refine goes_ret1 Tryd.func99 rfl (by conv => lhs; whnf) ?_
      exact ⟨rfl, hS⟩
    | false =>
      have heq : Lib.itoa v = tok := by simpa using hq
      by_cases hlo : v < -1099511627776
      · rw [if_neg (fun h => by omega)] at hn
        have e1 : s.number numM tok = (0, s.fail 1) := by simp only [RS.number, hn]
        rw [e1]
        refine lst_guard rfl rfl ?_
        refine lst_run (run_move (by conv => lhs; whnf)) rfl ?_
        refine lst_guard rfl rfl ?_
        first
          | refine lst_run (run_lss_yes rfl rfl (by omega)) rfl ?_
          | refine lst_run (run_lss_no rfl rfl (by omega)) rfl ?_
          | refine lst_run (rfl) rfl ?_
        first
          | refine lst_run (run_pick_t rfl (by conv => lhs; whnf)) rfl ?_
          | refine lst_run (run_pick_f rfl (by conv => lhs; whnf)) rfl ?_
        refine lst_run (run_move (by conv => lhs; whnf)) rfl ?_
        refine lst_pass rfl rfl rfl ?_
        refine lst_pass rfl rfl rfl ?_
        first
          | refine lst_run (run_pick_t rfl (by conv => lhs; whnf)) rfl ?_
          | refine lst_run (run_pick_f rfl (by conv => lhs; whnf)) rfl ?_
        refine lst_done ?_
        refine goes_true rfl ?_
        refine goes_seq ?_
        refine goes_region ?_
        refine lst_run (run_move (by conv => lhs; whnf)) rfl ?_
        refine lst_enter (run_call (by kernel_rfl) (args_2 (by conv => lhs; whnf) (by conv => lhs; whnf))) rfl ?_
        refine Calls.mono (fail_any s 1 _ hS) ?_
        rintro _ w3 ⟨rfl, hS'⟩
        refine ⟨_, rfl, ?_⟩
        replace hS := hS'
        clear hS'
        refine lst_done ?_
        refine goes_seq ?_
        refine goes_region ?_
        refine lst_run (run_assign (by conv => lhs; whnf)) rfl ?_
        refine lst_done ?_
        refine goes_ret1 Tryd.func99 rfl (by conv => lhs; whnf) ?_
        exact ⟨rfl, hS⟩
      · by_cases hhi : v > 1099511627776
        · rw [if_neg (fun h => by omega)] at hn
          have e1 : s.number numM tok = (0, s.fail 1) := by simp only [RS.number, hn]
          rw [e1]
          refine lst_guard rfl rfl ?_
          refine lst_run (run_move (by conv => lhs; whnf)) rfl ?_
          refine lst_guard rfl rfl ?_
          first
            | refine lst_run (run_lss_yes rfl rfl (by omega)) rfl ?_
            | refine lst_run (run_lss_no rfl rfl (by omega)) rfl ?_
            | refine lst_run (rfl) rfl ?_
          first
            | refine lst_run (run_pick_t rfl (by conv => lhs; whnf)) rfl ?_
            | refine lst_run (run_pick_f rfl (by conv => lhs; whnf)) rfl ?_
          refine lst_run (run_move (by conv => lhs; whnf)) rfl ?_
          refine lst_guard rfl rfl ?_
          refine lst_run (run_move (by conv => lhs; whnf)) rfl ?_
          refine lst_guard rfl rfl ?_
          first
            | refine lst_run (run_gtr_yes rfl rfl (by omega)) rfl ?_
            | refine lst_run (run_gtr_no rfl rfl (by omega)) rfl ?_
            | refine lst_run (rfl) rfl ?_
          first
            | refine lst_run (run_pick_t rfl (by conv => lhs; whnf)) rfl ?_
            | refine lst_run (run_pick_f rfl (by conv => lhs; whnf)) rfl ?_
          refine lst_done ?_
          refine goes_true rfl ?_
          refine goes_seq ?_
          refine goes_region ?_
          refine lst_run (run_move (by conv => lhs; whnf)) rfl ?_
          refine lst_enter (run_call (by kernel_rfl) (args_2 (by conv => lhs; whnf) (by conv => lhs; whnf))) rfl ?_
          refine Calls.mono (fail_any s 1 _ hS) ?_
          rintro _ w3 ⟨rfl, hS'⟩
          refine ⟨_, rfl, ?_⟩
          replace hS := hS'
          clear hS'
          refine lst_done ?_
          refine goes_seq ?_
          refine goes_region ?_
          refine lst_run (run_assign (by conv => lhs; whnf)) rfl ?_
          refine lst_done ?_
          refine goes_ret1 Tryd.func99 rfl (by conv => lhs; whnf) ?_
          exact ⟨rfl, hS⟩
        · rw [if_pos ⟨heq, by omega, by omega⟩] at hn
          have e1 : s.number numM tok = (v, s) := by simp only [RS.number, hn]
          rw [e1]
          refine lst_guard rfl rfl ?_
          refine lst_run (run_move (by conv => lhs; whnf)) rfl ?_
          refine lst_guard rfl rfl ?_
          first
            | refine lst_run (run_lss_yes rfl rfl (by omega)) rfl ?_
            | refine lst_run (run_lss_no rfl rfl (by omega)) rfl ?_
            | refine lst_run (rfl) rfl ?_
          first
            | refine lst_run (run_pick_t rfl (by conv => lhs; whnf)) rfl ?_
            | refine lst_run (run_pick_f rfl (by conv => lhs; whnf)) rfl ?_
          refine lst_run (run_move (by conv => lhs; whnf)) rfl ?_
          refine lst_guard rfl rfl ?_
          refine lst_run (run_move (by conv => lhs; whnf)) rfl ?_
          refine lst_guard rfl rfl ?_
          first
            | refine lst_run (run_gtr_yes rfl rfl (by omega)) rfl ?_
            | refine lst_run (run_gtr_no rfl rfl (by omega)) rfl ?_
            | refine lst_run (rfl) rfl ?_
          first
            | refine lst_run (run_pick_t rfl (by conv => lhs; whnf)) rfl ?_
            | refine lst_run (run_pick_f rfl (by conv => lhs; whnf)) rfl ?_
          refine lst_done ?_
          refine goes_false rfl ?_
          refine goes_skip ?_
          refine goes_seq ?_
          refine goes_region ?_
          refine lst_run (run_move (by conv => lhs; whnf)) rfl ?_
          refine lst_run (run_assign (by conv => lhs; whnf)) rfl ?_
          refine lst_done ?_
          refine goes_ret1 Tryd.func99 rfl (by conv => lhs; whnf) ?_
          exact ⟨rfl, hS⟩
  case range =>
    refine bad (Lib.atoiSat (⟨tok.toArray⟩ : ByteArray).data.toList) (Calls.mono (Any.strconv_Atoi_range_var Tryd.laysC172 ⟨tok.toArray⟩ (by rw [hsz]; omega) (by rw [data_mk]; exact ha) tp2 pp2 w her) ?_) (by simp only [numM, ha])
    rintro e w' ⟨N, rfl, _, _, hb⟩
    exact ⟨N, rfl, hb⟩
  all_goals
    refine bad 0 (Calls.mono (Any.strconv_Atoi_syntax_var Tryd.laysC172 ⟨tok.toArray⟩ (by rw [hsz]; omega) (by rw [data_mk]; exact ha) tp pp w hes) ?_) (by simp only [numM, ha])
    rintro e w' ⟨N, rfl, _, _, hb⟩
    exact ⟨N, rfl, hb⟩
end Go.Proofs.YtdiophafmokfiaaDoor
