/-
  What the reader asks of Go's library, out of the shelf's contracts: white space cut off, a sign among signs, numbers read and written.
-/
import Derived.Test.YtdiophafmokfiaaGreatDoorRWalk6
import Derived.Ground.NamesProg
import Derived.Shelf.Strings.SlTrimAscii
import Derived.Shelf.Strings.Search1
import Derived.Shelf.LaysM
import Derived.Shelf.LaysC
import Derived.Shelf.Strconv.Itoa3
import Derived.Shelf.Strconv.AtoiAll
import Derived.Shelf.Strconv.ErrVarAll
namespace Go.Proofs
open Go.Shelf
def Tryz.lays161_ren : Go.Shelf.Ren := ⟨fun | 161 => 50 | 231 => 69 | 227 => 70 | 233 => 71 | 235 => 72 | 228 => 88 | 197 => 89 | 151 => 90 | 260 => 97 | 152 => 98 | 137 => 39 | 119 => 111 | 224 => 112 | 225 => 113 | 217 => 59 | 266 => 77 | n => n, fun | 9 => 9 | 4 => 4 | 3 => 3 | 5 => 5 | 117 => 93 | 116 => 92 | 0 => 0 | 124 => 96 | 105 => 109 | 21 => 21 | 119 => 128 | 46 => 129 | 139 => 132 | 138 => 131 | n => n, fun | 3 => 1 | 4 => 2 | n => n⟩
theorem Tryz.lays161 : Go.Proofs.Lays.n161 Tryz.prog Tryz.lays161_ren := {
  mixed := by kernel_rfl
  f119 := Tryz.func111.trans (congrArg some (by kernel_rfl))
  f137 := Tryz.func39.trans (congrArg some (by kernel_rfl))
  f151 := Tryz.func90.trans (congrArg some (by kernel_rfl))
  f152 := Tryz.func98.trans (congrArg some (by kernel_rfl))
  f161 := Tryz.func50.trans (congrArg some (by kernel_rfl))
  f197 := Tryz.func89.trans (congrArg some (by kernel_rfl))
  f217 := Tryz.func59.trans (congrArg some (by kernel_rfl))
  f224 := Tryz.func112.trans (congrArg some (by kernel_rfl))
  f225 := Tryz.func113.trans (congrArg some (by kernel_rfl))
  f227 := Tryz.func70.trans (congrArg some (by kernel_rfl))
  f228 := Tryz.func88.trans (congrArg some (by kernel_rfl))
  f231 := Tryz.func69.trans (congrArg some (by kernel_rfl))
  f233 := Tryz.func71.trans (congrArg some (by kernel_rfl))
  f235 := Tryz.func72.trans (congrArg some (by kernel_rfl))
  f260 := Tryz.func97.trans (congrArg some (by kernel_rfl))
  f266 := Tryz.func77.trans (congrArg some (by kernel_rfl))
  t0 := Tryz.underlying0
  a0 := Tryz.isAgg0
  z0 := Tryz.sizeOf0
  v0 := Tryz.zeroValue0
  t3 := Tryz.underlying3
  a3 := Tryz.isAgg3
  z3 := Tryz.sizeOf3
  v3 := Tryz.zeroValue3
  t4 := Tryz.underlying4
  a4 := Tryz.isAgg4
  z4 := Tryz.sizeOf4
  v4 := Tryz.zeroValue4
  t5 := Tryz.underlying5
  a5 := Tryz.isAgg5
  z5 := Tryz.sizeOf5
  v5 := Tryz.zeroValue5
  t9 := Tryz.underlying9
  a9 := Tryz.isAgg9
  z9 := Tryz.sizeOf9
  v9 := Tryz.zeroValue9
  t21 := Tryz.underlying21
  a21 := Tryz.isAgg21
  z21 := Tryz.sizeOf21
  v21 := Tryz.zeroValue21
  t46 := Tryz.underlying129
  a46 := Tryz.isAgg129
  z46 := Tryz.sizeOf129
  v46 := Tryz.zeroValue129
  t105 := Tryz.underlying109
  a105 := Tryz.isAgg109
  z105 := Tryz.sizeOf109
  v105 := Tryz.zeroValue109
  t116 := Tryz.underlying92
  a116 := Tryz.isAgg92
  z116 := Tryz.sizeOf92
  t117 := Tryz.underlying93
  a117 := Tryz.isAgg93
  z117 := Tryz.sizeOf93
  v117 := Tryz.zeroValue93
  t119 := Tryz.underlying128
  a119 := Tryz.isAgg128
  z119 := Tryz.sizeOf128
  t124 := Tryz.underlying96
  a124 := Tryz.isAgg96
  z124 := Tryz.sizeOf96
  v124 := Tryz.zeroValue96
  t138 := Tryz.underlying131
  a138 := Tryz.isAgg131
  z138 := Tryz.sizeOf131
  v138 := Tryz.zeroValue131
  t139 := Tryz.underlying132
  a139 := Tryz.isAgg132
  z139 := Tryz.sizeOf132
  v139 := Tryz.zeroValue132
  g3 := by kernel_rfl
  g4 := by kernel_rfl }
def Tryz.lays137_ren : Go.Shelf.Ren := ⟨fun | 137 => 39 | 217 => 59 | 266 => 77 | n => n, fun | 9 => 9 | 5 => 5 | 3 => 3 | n => n, fun | n => n⟩
theorem Tryz.lays137 : Go.Proofs.Lays.n137 Tryz.prog Tryz.lays137_ren := {
  mixed := by kernel_rfl
  f137 := Tryz.func39.trans (congrArg some (by kernel_rfl))
  f217 := Tryz.func59.trans (congrArg some (by kernel_rfl))
  f266 := Tryz.func77.trans (congrArg some (by kernel_rfl))
  t3 := Tryz.underlying3
  a3 := Tryz.isAgg3
  z3 := Tryz.sizeOf3
  v3 := Tryz.zeroValue3
  t5 := Tryz.underlying5
  a5 := Tryz.isAgg5
  z5 := Tryz.sizeOf5
  v5 := Tryz.zeroValue5
  t9 := Tryz.underlying9
  a9 := Tryz.isAgg9
  z9 := Tryz.sizeOf9
  v9 := Tryz.zeroValue9 }
def Tryz.laysM171_ren : Go.Shelf.Ren := ⟨fun | 171 => 67 | 243 => 86 | 246 => 96 | 283 => 107 | 284 => 108 | 285 => 109 | 286 => 110 | 129 => 119 | 317 => 118 | 318 => 120 | 319 => 121 | 320 => 122 | 337 => 126 | 338 => 127 | n => n, fun | 3 => 3 | 9 => 9 | 2 => 2 | 4 => 4 | 171 => 122 | 0 => 0 | 53 => 123 | 37 => 60 | 5 => 5 | 173 => 126 | 212 => 143 | 51 => 144 | 20 => 20 | 213 => 145 | 46 => 129 | 232 => 153 | 233 => 154 | n => n, fun | 17 => 5 | 18 => 6 | 19 => 7 | n => n⟩
theorem Tryz.laysM171 : Go.Proofs.LaysM.n171 Tryz.prog Tryz.laysM171_ren := {
  mixed := by kernel_rfl
  f129 := Tryz.func119.trans (congrArg some (by kernel_rfl))
  f171 := Tryz.func67.trans (congrArg some (by kernel_rfl))
  f243 := Tryz.func86.trans (congrArg some (by kernel_rfl))
  f246 := Tryz.func96.trans (congrArg some (by kernel_rfl))
  f283 := Tryz.func107.trans (congrArg some (by kernel_rfl))
  f284 := Tryz.func108.trans (congrArg some (by kernel_rfl))
  f285 := Tryz.func109.trans (congrArg some (by kernel_rfl))
  f286 := Tryz.func110.trans (congrArg some (by kernel_rfl))
  f317 := Tryz.func118.trans (congrArg some (by kernel_rfl))
  f318 := Tryz.func120.trans (congrArg some (by kernel_rfl))
  f319 := Tryz.func121.trans (congrArg some (by kernel_rfl))
  f320 := Tryz.func122.trans (congrArg some (by kernel_rfl))
  f337 := Tryz.func126.trans (congrArg some (by kernel_rfl))
  f338 := Tryz.func127.trans (congrArg some (by kernel_rfl))
  t0 := Tryz.underlying0
  a0 := Tryz.isAgg0
  z0 := Tryz.sizeOf0
  v0 := Tryz.zeroValue0
  t2 := Tryz.underlying2
  a2 := Tryz.isAgg2
  z2 := Tryz.sizeOf2
  v2 := Tryz.zeroValue2
  t3 := Tryz.underlying3
  a3 := Tryz.isAgg3
  z3 := Tryz.sizeOf3
  v3 := Tryz.zeroValue3
  t4 := Tryz.underlying4
  a4 := Tryz.isAgg4
  z4 := Tryz.sizeOf4
  v4 := Tryz.zeroValue4
  t5 := Tryz.underlying5
  a5 := Tryz.isAgg5
  z5 := Tryz.sizeOf5
  v5 := Tryz.zeroValue5
  t9 := Tryz.underlying9
  a9 := Tryz.isAgg9
  z9 := Tryz.sizeOf9
  v9 := Tryz.zeroValue9
  t20 := Tryz.underlying20
  a20 := Tryz.isAgg20
  z20 := Tryz.sizeOf20
  v20 := Tryz.zeroValue20
  t37 := Tryz.underlying60
  a37 := Tryz.isAgg60
  z37 := Tryz.sizeOf60
  v37 := Tryz.zeroValue60
  t46 := Tryz.underlying129
  a46 := Tryz.isAgg129
  z46 := Tryz.sizeOf129
  v46 := Tryz.zeroValue129
  t51 := Tryz.underlying144
  a51 := Tryz.isAgg144
  z51 := Tryz.sizeOf144
  v51 := Tryz.zeroValue144
  t53 := Tryz.underlying123
  a53 := Tryz.isAgg123
  z53 := Tryz.sizeOf123
  v53 := Tryz.zeroValue123
  t171 := Tryz.underlying122
  a171 := Tryz.isAgg122
  z171 := Tryz.sizeOf122
  v171 := Tryz.zeroValue122
  t173 := Tryz.underlying126
  a173 := Tryz.isAgg126
  z173 := Tryz.sizeOf126
  v173 := Tryz.zeroValue126
  t212 := Tryz.underlying143
  a212 := Tryz.isAgg143
  z212 := Tryz.sizeOf143
  v212 := Tryz.zeroValue143
  t213 := Tryz.underlying145
  a213 := Tryz.isAgg145
  z213 := Tryz.sizeOf145
  t232 := Tryz.underlying153
  a232 := Tryz.isAgg153
  z232 := Tryz.sizeOf153
  v232 := Tryz.zeroValue153
  t233 := Tryz.underlying154
  a233 := Tryz.isAgg154
  z233 := Tryz.sizeOf154
  v233 := Tryz.zeroValue154
  g17 := by kernel_rfl
  g18 := by kernel_rfl
  g19 := by kernel_rfl
  i0 := by kernel_rfl
  i2 := by kernel_rfl
  i3 := by kernel_rfl
  i4 := by kernel_rfl
  i5 := by kernel_rfl
  i9 := by kernel_rfl
  i20 := by kernel_rfl
  i37 := by kernel_rfl
  i46 := by kernel_rfl
  i51 := by kernel_rfl
  i53 := by kernel_rfl
  i171 := by kernel_rfl
  i173 := by kernel_rfl
  i212 := by kernel_rfl
  i232 := by kernel_rfl
  i233 := by kernel_rfl
  m17 := by kernel_rfl
  m18 := by kernel_rfl
  m19 := by kernel_rfl }
def Tryz.laysC172_ren : Go.Shelf.Ren := ⟨fun | 172 => 76 | 244 => 92 | 245 => 93 | 247 => 99 | 279 => 100 | 280 => 101 | 281 => 102 | 282 => 103 | 287 => 114 | 316 => 115 | 171 => 67 | 205 => 116 | 321 => 123 | 322 => 124 | 243 => 86 | 246 => 96 | 283 => 107 | 284 => 108 | 285 => 109 | 286 => 110 | 129 => 119 | 317 => 118 | 318 => 120 | 319 => 121 | 320 => 122 | 337 => 126 | 338 => 127 | n => n, fun | 9 => 9 | 3 => 3 | 75 => 78 | 76 => 79 | 4 => 4 | 5 => 5 | 167 => 116 | 37 => 60 | 0 => 0 | 85 => 117 | 2 => 2 | 168 => 119 | 53 => 123 | 175 => 136 | 46 => 129 | 210 => 140 | 127 => 85 | 145 => 151 | 143 => 149 | 21 => 21 | 171 => 122 | 173 => 126 | 212 => 143 | 51 => 144 | 20 => 20 | 213 => 145 | 232 => 153 | 233 => 154 | 80 => 67 | n => n, fun | 15 => 3 | 16 => 4 | 17 => 5 | 18 => 6 | 19 => 7 | n => n⟩
theorem Tryz.laysC172 : Go.Proofs.LaysC.n172 Tryz.prog Tryz.laysC172_ren := {
  mixed := by kernel_rfl
  f129 := Tryz.func119.trans (congrArg some (by kernel_rfl))
  f171 := Tryz.func67.trans (congrArg some (by kernel_rfl))
  f172 := Tryz.func76.trans (congrArg some (by kernel_rfl))
  f205 := Tryz.func116.trans (congrArg some (by kernel_rfl))
  f243 := Tryz.func86.trans (congrArg some (by kernel_rfl))
  f244 := Tryz.func92.trans (congrArg some (by kernel_rfl))
  f245 := Tryz.func93.trans (congrArg some (by kernel_rfl))
  f246 := Tryz.func96.trans (congrArg some (by kernel_rfl))
  f247 := Tryz.func99.trans (congrArg some (by kernel_rfl))
  f279 := Tryz.func100.trans (congrArg some (by kernel_rfl))
  f280 := Tryz.func101.trans (congrArg some (by kernel_rfl))
  f281 := Tryz.func102.trans (congrArg some (by kernel_rfl))
  f282 := Tryz.func103.trans (congrArg some (by kernel_rfl))
  f283 := Tryz.func107.trans (congrArg some (by kernel_rfl))
  f284 := Tryz.func108.trans (congrArg some (by kernel_rfl))
  f285 := Tryz.func109.trans (congrArg some (by kernel_rfl))
  f286 := Tryz.func110.trans (congrArg some (by kernel_rfl))
  f287 := Tryz.func114.trans (congrArg some (by kernel_rfl))
  f316 := Tryz.func115.trans (congrArg some (by kernel_rfl))
  f317 := Tryz.func118.trans (congrArg some (by kernel_rfl))
  f318 := Tryz.func120.trans (congrArg some (by kernel_rfl))
  f319 := Tryz.func121.trans (congrArg some (by kernel_rfl))
  f320 := Tryz.func122.trans (congrArg some (by kernel_rfl))
  f321 := Tryz.func123.trans (congrArg some (by kernel_rfl))
  f322 := Tryz.func124.trans (congrArg some (by kernel_rfl))
  f337 := Tryz.func126.trans (congrArg some (by kernel_rfl))
  f338 := Tryz.func127.trans (congrArg some (by kernel_rfl))
  t0 := Tryz.underlying0
  a0 := Tryz.isAgg0
  z0 := Tryz.sizeOf0
  v0 := Tryz.zeroValue0
  t2 := Tryz.underlying2
  a2 := Tryz.isAgg2
  z2 := Tryz.sizeOf2
  v2 := Tryz.zeroValue2
  t3 := Tryz.underlying3
  a3 := Tryz.isAgg3
  z3 := Tryz.sizeOf3
  v3 := Tryz.zeroValue3
  t4 := Tryz.underlying4
  a4 := Tryz.isAgg4
  z4 := Tryz.sizeOf4
  v4 := Tryz.zeroValue4
  t5 := Tryz.underlying5
  a5 := Tryz.isAgg5
  z5 := Tryz.sizeOf5
  v5 := Tryz.zeroValue5
  t9 := Tryz.underlying9
  a9 := Tryz.isAgg9
  z9 := Tryz.sizeOf9
  v9 := Tryz.zeroValue9
  t20 := Tryz.underlying20
  a20 := Tryz.isAgg20
  z20 := Tryz.sizeOf20
  v20 := Tryz.zeroValue20
  t21 := Tryz.underlying21
  a21 := Tryz.isAgg21
  z21 := Tryz.sizeOf21
  v21 := Tryz.zeroValue21
  t37 := Tryz.underlying60
  a37 := Tryz.isAgg60
  z37 := Tryz.sizeOf60
  v37 := Tryz.zeroValue60
  t46 := Tryz.underlying129
  a46 := Tryz.isAgg129
  z46 := Tryz.sizeOf129
  v46 := Tryz.zeroValue129
  t51 := Tryz.underlying144
  a51 := Tryz.isAgg144
  z51 := Tryz.sizeOf144
  v51 := Tryz.zeroValue144
  t53 := Tryz.underlying123
  a53 := Tryz.isAgg123
  z53 := Tryz.sizeOf123
  v53 := Tryz.zeroValue123
  t75 := Tryz.underlying78
  a75 := Tryz.isAgg78
  z75 := Tryz.sizeOf78
  v75 := Tryz.zeroValue78
  t76 := Tryz.underlying79
  a76 := Tryz.isAgg79
  z76 := Tryz.sizeOf79
  v76 := Tryz.zeroValue79
  t85 := Tryz.underlying117
  a85 := Tryz.isAgg117
  z85 := Tryz.sizeOf117
  v85 := Tryz.zeroValue117
  t127 := Tryz.underlying85
  a127 := Tryz.isAgg85
  z127 := Tryz.sizeOf85
  v127 := Tryz.zeroValue85
  t143 := Tryz.underlying149
  a143 := Tryz.isAgg149
  z143 := Tryz.sizeOf149
  v143 := Tryz.zeroValue149
  t145 := Tryz.underlying151
  a145 := Tryz.isAgg151
  z145 := Tryz.sizeOf151
  v145 := Tryz.zeroValue151
  t167 := Tryz.underlying116
  a167 := Tryz.isAgg116
  z167 := Tryz.sizeOf116
  v167 := Tryz.zeroValue116
  t168 := Tryz.underlying119
  a168 := Tryz.isAgg119
  z168 := Tryz.sizeOf119
  v168 := Tryz.zeroValue119
  t171 := Tryz.underlying122
  a171 := Tryz.isAgg122
  z171 := Tryz.sizeOf122
  v171 := Tryz.zeroValue122
  t173 := Tryz.underlying126
  a173 := Tryz.isAgg126
  z173 := Tryz.sizeOf126
  v173 := Tryz.zeroValue126
  t175 := Tryz.underlying136
  a175 := Tryz.isAgg136
  z175 := Tryz.sizeOf136
  v175 := Tryz.zeroValue136
  t210 := Tryz.underlying140
  a210 := Tryz.isAgg140
  z210 := Tryz.sizeOf140
  v210 := Tryz.zeroValue140
  t212 := Tryz.underlying143
  a212 := Tryz.isAgg143
  z212 := Tryz.sizeOf143
  v212 := Tryz.zeroValue143
  t213 := Tryz.underlying145
  a213 := Tryz.isAgg145
  z213 := Tryz.sizeOf145
  t232 := Tryz.underlying153
  a232 := Tryz.isAgg153
  z232 := Tryz.sizeOf153
  v232 := Tryz.zeroValue153
  t233 := Tryz.underlying154
  a233 := Tryz.isAgg154
  z233 := Tryz.sizeOf154
  v233 := Tryz.zeroValue154
  g15 := by kernel_rfl
  g16 := by kernel_rfl
  g17 := by kernel_rfl
  g18 := by kernel_rfl
  g19 := by kernel_rfl
  t80 := Tryz.underlying67
  a80 := Tryz.isAgg67
  z80 := Tryz.sizeOf67
  v80 := Tryz.zeroValue67
  i0 := by kernel_rfl
  i2 := by kernel_rfl
  i3 := by kernel_rfl
  i4 := by kernel_rfl
  i5 := by kernel_rfl
  i9 := by kernel_rfl
  i20 := by kernel_rfl
  i21 := by kernel_rfl
  i37 := by kernel_rfl
  i46 := by kernel_rfl
  i51 := by kernel_rfl
  i53 := by kernel_rfl
  i75 := by kernel_rfl
  i76 := by kernel_rfl
  i80 := by kernel_rfl
  i85 := by kernel_rfl
  i127 := by kernel_rfl
  i143 := by kernel_rfl
  i145 := by kernel_rfl
  i167 := by kernel_rfl
  i168 := by kernel_rfl
  i171 := by kernel_rfl
  i173 := by kernel_rfl
  i175 := by kernel_rfl
  i210 := by kernel_rfl
  i212 := by kernel_rfl
  i232 := by kernel_rfl
  i233 := by kernel_rfl
  m15 := by kernel_rfl
  m16 := by kernel_rfl
  m17 := by kernel_rfl
  m18 := by kernel_rfl
  m19 := by kernel_rfl
  c0 := by kernel_rfl
  c2 := by kernel_rfl
  c3 := by kernel_rfl
  c4 := by kernel_rfl
  c5 := by kernel_rfl
  c9 := by kernel_rfl
  c20 := by kernel_rfl
  c21 := by kernel_rfl
  c37 := by kernel_rfl
  c46 := by kernel_rfl
  c51 := by kernel_rfl
  c53 := by kernel_rfl
  c75 := by kernel_rfl
  c76 := by kernel_rfl
  c80 := by kernel_rfl
  c85 := by kernel_rfl
  c127 := by kernel_rfl
  c143 := by kernel_rfl
  c145 := by kernel_rfl
  c167 := by kernel_rfl
  c168 := by kernel_rfl
  c171 := by kernel_rfl
  c173 := by kernel_rfl
  c175 := by kernel_rfl
  c210 := by kernel_rfl
  c212 := by kernel_rfl
  c213 := by kernel_rfl
  c232 := by kernel_rfl
  c233 := by kernel_rfl }
end Go.Proofs
namespace Go.Proofs.YtdiophafmokfiaaGreatDoor
open Go.RowKit Go.Shelf
set_option linter.unusedVariables false
set_option maxRecDepth 100000
set_option maxHeartbeats 1000000

theorem data_mk (l : Str) : (⟨l.toArray⟩ : ByteArray).data.toList = l := by simp
theorem lib2 : Lib2 := by
  intro l w hl
  have h := Any.strings_TrimLeft_laid Tryz.lays161 (by kernel_rfl) ⟨l.toArray⟩ ⟨#[32, 10, 13, 9]⟩ w (by decide) (ascii_of_all (by decide))
  refine Calls.mono h ?_
  rintro e w' ⟨rfl, hb⟩
  refine ⟨?_, hb⟩
  rw [data_mk]
  rfl
theorem sign_of (c : UInt8) : decide ((Lib.indexByte signs c) ≥ 0) = signs.contains c := by
  have h : ∀ n : Fin 256, decide ((Lib.indexByte signs (UInt8.ofNat n.val)) ≥ 0) = signs.contains (UInt8.ofNat n.val) := by decide +kernel
  have := h ⟨c.toNat, c.toNat_lt⟩
  simpa using this
theorem lib1 : Lib1 := by
  refine ⟨hasPrefix_any, fun c w => ?_⟩
  have h := Any.strings_IndexByte Tryz.lays137 ⟨signs.toArray⟩ (c.toNat : Int) w
  refine Calls.mono h ?_
  rintro e w' ⟨rfl, hw⟩
  refine ⟨⟨_, rfl, ?_⟩, hw⟩
  rw [data_mk]
  have : ((c.toNat : Nat) : Int).toNat.toUInt8 = c := by simp
  rw [this]
  exact sign_of c
/-- What a token of digits stands for. -/
def numM (tok : Str) : Option Int := match Lib.atoiAll tok with
  | .ok v => if Lib.itoa v = tok ∧ -1099511627776 ≤ v ∧ v ≤ 1099511627776 then some v else none
  | _ => none
/-- The library's variables. -/
structure GVars (w : World) : Prop where
  es : ∃ tp p, w.var? Tryz.prog "strconv.ErrSyntax" = some #[.iface tp p]
  er : ∃ tp p, w.var? Tryz.prog "strconv.ErrRange" = some #[.iface tp p]
  tab : Lib.TabIs Tryz.prog w "internal/strconv.uint64pow10" .u64 Lib.pow10Tab
theorem grow_below (w : World) (k : Nat) (os : Array Obj) : Below w.heap.size w (Go.Sort.grow (w.drewN k) os) := by
  refine ⟨rfl, rfl, rfl, ?_, fun j hj => ?_⟩
  · simp [Go.Sort.grow, World.drewN]
  · show (w.heap ++ os)[j]? = w.heap[j]?
    rw [Array.getElem?_append_left hj]
theorem atoi_range {l : Str} {v : Int} (h : Lib.atoiAll l = .ok v) : -9223372036854775808 ≤ v ∧ v ≤ 9223372036854775807 := by
  unfold Lib.atoiAll at h
  split at h
  · cases h
  · simp only at h
    split at h
    · cases h
    · cases h
    · split at h
      · cases h
      · split at h
        · cases h
        · rename_i h1 h2
          simp only [Lib.NumEnd.ok.injEq] at h
          subst h
          split <;> omega
theorem lib3 : Lib3 numM GVars := by
  intro tok s A vl vc M w0 w H F b hG hl hS
  have g := hG w hS.ext
  obtain ⟨tp, pp, hes⟩ := g.es
  obtain ⟨tp2, pp2, her⟩ := g.er
  have hsz : (⟨tok.toArray⟩ : ByteArray).size = tok.length := size_mk tok
  have bad : ∀ x : Int, (Calls Tryz.prog 76 #[sv tok] w fun e w' => ∃ N, e = .returned (.tuple #[.int .i64 x, .iface 119 (.pointer (some ⟨N, 0, none⟩))]) ∧ Below w.heap.size w w') → numM tok = none →
      Calls Tryz.prog 57 #[ptr b, sv tok] w fun e w' => e = .returned (.int .i64 (s.number numM tok).1) ∧ St M w0 ((b, rdr (s.number numM tok).2 (.slice A vl vc)) :: H) F w' := by
    intro x hc hn
    have e1 : s.number numM tok = (0, s.fail 1) := by simp only [RS.number, hn]
    rw [e1]
    refine goes_enter2 Tryz.func57 rfl Tryz.ntmps57 rfl ?_
    refine goes_seq ?_
    refine goes_region ?_
    refine lst_run (run_assign (by conv => lhs; whnf)) rfl ?_
    refine lst_done ?_
    refine goes_seq ?_
    refine goes_region ?_
    refine lst_run (run_move (by conv => lhs; whnf)) rfl ?_
    refine lst_enter (run_call (by kernel_rfl) (args_1 (by conv => lhs; whnf))) rfl ?_
    refine Calls.mono hc ?_
    rintro _ w1 ⟨N, rfl, hb1⟩
    refine ⟨_, rfl, ?_⟩
    replace hS := hS.grow hb1
    refine lst_run (run_move (by conv => lhs; whnf)) rfl ?_
    refine lst_run (run_extract rfl rfl) rfl ?_
    refine lst_run (run_extract rfl rfl) rfl ?_
    refine lst_run (run_assign (by conv => lhs; whnf)) rfl ?_
    refine lst_run (run_assign (by conv => lhs; whnf)) rfl ?_
    refine lst_done ?_
    refine goes_seq ?_
    refine goes_seq ?_
    refine goes_region ?_
    refine lst_run (run_move (by conv => lhs; whnf)) rfl ?_
    refine lst_run (rfl) rfl ?_
    refine lst_run (run_move (by conv => lhs; whnf)) rfl ?_
    refine lst_pass rfl rfl rfl ?_
    refine lst_pass rfl rfl rfl ?_
    refine lst_pass rfl rfl rfl ?_
    refine lst_pass rfl rfl rfl ?_
    first
      | refine lst_run (run_pick_t rfl (by conv => lhs; whnf)) rfl ?_
      | refine lst_run (run_pick_f rfl (by conv => lhs; whnf)) rfl ?_
    refine lst_run (run_move (by conv => lhs; whnf)) rfl ?_
    refine lst_pass rfl rfl rfl ?_
    refine lst_pass rfl rfl rfl ?_
    first
      | refine lst_run (run_pick_t rfl (by conv => lhs; whnf)) rfl ?_
      | refine lst_run (run_pick_f rfl (by conv => lhs; whnf)) rfl ?_
    refine lst_run (run_move (by conv => lhs; whnf)) rfl ?_
    refine lst_pass rfl rfl rfl ?_
    refine lst_pass rfl rfl rfl ?_
    first
      | refine lst_run (run_pick_t rfl (by conv => lhs; whnf)) rfl ?_
      | refine lst_run (run_pick_f rfl (by conv => lhs; whnf)) rfl ?_
    refine lst_done ?_
    refine goes_true rfl ?_
    refine goes_seq ?_
    refine goes_region ?_
    refine lst_run (run_move (by conv => lhs; whnf)) rfl ?_
    refine lst_enter (run_call (by kernel_rfl) (args_2 (by conv => lhs; whnf) (by conv => lhs; whnf))) rfl ?_
    refine Calls.mono (fail_any s 1 _ hS) ?_
    rintro _ w2 ⟨rfl, hS'⟩
    refine ⟨_, rfl, ?_⟩
    replace hS := hS'
    clear hS'
    refine lst_done ?_
    refine goes_seq ?_
    refine goes_region ?_
    refine lst_run (run_assign (by conv => lhs; whnf)) rfl ?_
    refine lst_done ?_
    refine goes_ret1 Tryz.func57 rfl (by conv => lhs; whnf) ?_
    exact ⟨rfl, hS⟩
  cases ha : Lib.atoiAll tok
  case ok v =>
    have hr := atoi_range ha
    have h1 := Any.strconv_Atoi_ok Tryz.laysC172 ⟨tok.toArray⟩ (by rw [hsz]; omega) v (by rw [data_mk]; exact ha) w
    have h1' : Calls Tryz.prog 76 #[sv tok] w fun e w' => e = .returned (.tuple #[.int .i64 v, .nilIface]) ∧ Below w.heap.size w w' := by
      refine Calls.mono h1 ?_
      rintro e w' ⟨rfl, rfl | ⟨t, rfl⟩⟩
      · exact ⟨rfl, Below.refl _ _⟩
      · exact ⟨rfl, Lib.bytesWorld_below _ _ _⟩
    clear h1
    have hit : ∀ w', GVars w' → Calls Tryz.prog 67 #[.int .i64 v] w' fun e w'' => e = .returned (sv (Lib.itoa v)) ∧ Below w'.heap.size w' w'' := by
      intro w' g'
      refine Calls.mono (Any.strconv_Itoa Tryz.laysM171 v hr.1 hr.2 w' g'.tab) ?_
      rintro e w'' ⟨rfl, k, os, rfl⟩
      exact ⟨rfl, grow_below _ _ _⟩
    have hn : numM tok = if Lib.itoa v = tok ∧ -1099511627776 ≤ v ∧ v ≤ 1099511627776 then some v else none := by simp only [numM, ha]
    refine goes_enter2 Tryz.func57 rfl Tryz.ntmps57 rfl ?_
    refine goes_seq ?_
    refine goes_region ?_
    refine lst_run (run_assign (by conv => lhs; whnf)) rfl ?_
    refine lst_done ?_
    refine goes_seq ?_
    refine goes_region ?_
    refine lst_run (run_move (by conv => lhs; whnf)) rfl ?_
    refine lst_enter (run_call (by kernel_rfl) (args_1 (by conv => lhs; whnf))) rfl ?_
    refine Calls.mono (h1') ?_
    rintro _ w1 ⟨rfl, hb1⟩
    refine ⟨_, rfl, ?_⟩
    replace hS := hS.grow hb1
    refine lst_run (run_move (by conv => lhs; whnf)) rfl ?_
    refine lst_run (run_extract rfl rfl) rfl ?_
    refine lst_run (run_extract rfl rfl) rfl ?_
    refine lst_run (run_assign (by conv => lhs; whnf)) rfl ?_
    refine lst_run (run_assign (by conv => lhs; whnf)) rfl ?_
    refine lst_done ?_
    refine goes_seq ?_
    refine goes_seq ?_
    refine goes_region ?_
    refine lst_run (run_move (by conv => lhs; whnf)) rfl ?_
    refine lst_run (rfl) rfl ?_
    refine lst_run (run_move (by conv => lhs; whnf)) rfl ?_
    refine lst_guard rfl rfl ?_
    refine lst_run (run_move (by conv => lhs; whnf)) rfl ?_
    refine lst_guard rfl rfl ?_
    refine lst_enter (run_call (by kernel_rfl) (args_1 (by conv => lhs; whnf))) rfl ?_
    refine Calls.mono (hit _ (hG _ hS.ext)) ?_
    rintro _ w2 ⟨rfl, hb2⟩
    refine ⟨_, rfl, ?_⟩
    replace hS := hS.grow hb2
    refine lst_guard rfl rfl ?_
    refine lst_run (run_move (by conv => lhs; whnf)) rfl ?_
    refine lst_guard rfl rfl ?_
    first
      | refine lst_run (run_neq_str rfl rfl) rfl ?_
      | refine lst_run (rfl) rfl ?_
    first
      | refine lst_run (run_pick_t rfl (by conv => lhs; whnf)) rfl ?_
      | refine lst_run (run_pick_f rfl (by conv => lhs; whnf)) rfl ?_
    refine lst_run (run_move (by conv => lhs; whnf)) rfl ?_
    generalize hq : (Lib.itoa v != tok) = q
    cases q with
    | true =>
      have hne : ¬ Lib.itoa v = tok := by simpa using hq
      rw [if_neg (fun h => hne h.1)] at hn
      have e1 : s.number numM tok = (0, s.fail 1) := by simp only [RS.number, hn]
      rw [e1]
      refine lst_pass rfl rfl rfl ?_
      refine lst_pass rfl rfl rfl ?_
      first
        | refine lst_run (run_pick_t rfl (by conv => lhs; whnf)) rfl ?_
        | refine lst_run (run_pick_f rfl (by conv => lhs; whnf)) rfl ?_
      refine lst_run (run_move (by conv => lhs; whnf)) rfl ?_
      refine lst_pass rfl rfl rfl ?_
      refine lst_pass rfl rfl rfl ?_
      first
        | refine lst_run (run_pick_t rfl (by conv => lhs; whnf)) rfl ?_
        | refine lst_run (run_pick_f rfl (by conv => lhs; whnf)) rfl ?_
      refine lst_done ?_
      refine goes_true rfl ?_
      refine goes_seq ?_
      refine goes_region ?_
      refine lst_run (run_move (by conv => lhs; whnf)) rfl ?_
      refine lst_enter (run_call (by kernel_rfl) (args_2 (by conv => lhs; whnf) (by conv => lhs; whnf))) rfl ?_
      refine Calls.mono (fail_any s 1 _ hS) ?_
      rintro _ w3 ⟨rfl, hS'⟩
      refine ⟨_, rfl, ?_⟩
      replace hS := hS'
      clear hS'
      refine lst_done ?_
      refine goes_seq ?_
      refine goes_region ?_
      refine lst_run (run_assign (by conv => lhs; whnf)) rfl ?_
      refine lst_done ?_
      refine goes_ret1 Tryz.func57 rfl (by conv => lhs; whnf) ?_
      exact ⟨rfl, hS⟩
    | false =>
      have heq : Lib.itoa v = tok := by simpa using hq
      by_cases hlo : v < -1099511627776
      · rw [if_neg (fun h => by omega)] at hn
        have e1 : s.number numM tok = (0, s.fail 1) := by simp only [RS.number, hn]
        rw [e1]
        refine lst_guard rfl rfl ?_
        refine lst_run (run_move (by conv => lhs; whnf)) rfl ?_
        refine lst_guard rfl rfl ?_
        first
          | refine lst_run (run_lss_yes rfl rfl (by omega)) rfl ?_
          | refine lst_run (run_lss_no rfl rfl (by omega)) rfl ?_
          | refine lst_run (rfl) rfl ?_
        first
          | refine lst_run (run_pick_t rfl (by conv => lhs; whnf)) rfl ?_
          | refine lst_run (run_pick_f rfl (by conv => lhs; whnf)) rfl ?_
        refine lst_run (run_move (by conv => lhs; whnf)) rfl ?_
        refine lst_pass rfl rfl rfl ?_
        refine lst_pass rfl rfl rfl ?_
        first
          | refine lst_run (run_pick_t rfl (by conv => lhs; whnf)) rfl ?_
          | refine lst_run (run_pick_f rfl (by conv => lhs; whnf)) rfl ?_
        refine lst_done ?_
        refine goes_true rfl ?_
        refine goes_seq ?_
        refine goes_region ?_
        refine lst_run (run_move (by conv => lhs; whnf)) rfl ?_
        refine lst_enter (run_call (by kernel_rfl) (args_2 (by conv => lhs; whnf) (by conv => lhs; whnf))) rfl ?_
        refine Calls.mono (fail_any s 1 _ hS) ?_
        rintro _ w3 ⟨rfl, hS'⟩
        refine ⟨_, rfl, ?_⟩
        replace hS := hS'
        clear hS'
        refine lst_done ?_
        refine goes_seq ?_
        refine goes_region ?_
        refine lst_run (run_assign (by conv => lhs; whnf)) rfl ?_
        refine lst_done ?_
        refine goes_ret1 Tryz.func57 rfl (by conv => lhs; whnf) ?_
        exact ⟨rfl, hS⟩
      · by_cases hhi : v > 1099511627776
        · rw [if_neg (fun h => by omega)] at hn
          have e1 : s.number numM tok = (0, s.fail 1) := by simp only [RS.number, hn]
          rw [e1]
          refine lst_guard rfl rfl ?_
          refine lst_run (run_move (by conv => lhs; whnf)) rfl ?_
          refine lst_guard rfl rfl ?_
          first
            | refine lst_run (run_lss_yes rfl rfl (by omega)) rfl ?_
            | refine lst_run (run_lss_no rfl rfl (by omega)) rfl ?_
            | refine lst_run (rfl) rfl ?_
          first
            | refine lst_run (run_pick_t rfl (by conv => lhs; whnf)) rfl ?_
            | refine lst_run (run_pick_f rfl (by conv => lhs; whnf)) rfl ?_
          refine lst_run (run_move (by conv => lhs; whnf)) rfl ?_
          refine lst_guard rfl rfl ?_
          refine lst_run (run_move (by conv => lhs; whnf)) rfl ?_
          refine lst_guard rfl rfl ?_
          first
            | refine lst_run (run_gtr_yes rfl rfl (by omega)) rfl ?_
            | refine lst_run (run_gtr_no rfl rfl (by omega)) rfl ?_
            | refine lst_run (rfl) rfl ?_
          first
            | refine lst_run (run_pick_t rfl (by conv => lhs; whnf)) rfl ?_
            | refine lst_run (run_pick_f rfl (by conv => lhs; whnf)) rfl ?_
          refine lst_done ?_
          refine goes_true rfl ?_
          refine goes_seq ?_
          refine goes_region ?_
          refine lst_run (run_move (by conv => lhs; whnf)) rfl ?_
          refine lst_enter (run_call (by kernel_rfl) (args_2 (by conv => lhs; whnf) (by conv => lhs; whnf))) rfl ?_
          refine Calls.mono (fail_any s 1 _ hS) ?_
          rintro _ w3 ⟨rfl, hS'⟩
          refine ⟨_, rfl, ?_⟩
          replace hS := hS'
          clear hS'
          refine lst_done ?_
          refine goes_seq ?_
          refine goes_region ?_
          refine lst_run (run_assign (by conv => lhs; whnf)) rfl ?_
          refine lst_done ?_
          refine goes_ret1 Tryz.func57 rfl (by conv => lhs; whnf) ?_
          exact ⟨rfl, hS⟩
        · rw [if_pos ⟨heq, by omega, by omega⟩] at hn
          have e1 : s.number numM tok = (v, s) := by simp only [RS.number, hn]
          rw [e1]
          refine lst_guard rfl rfl ?_
          refine lst_run (run_move (by conv => lhs; whnf)) rfl ?_
          refine lst_guard rfl rfl ?_
          first
            | refine lst_run (run_lss_yes rfl rfl (by omega)) rfl ?_
            | refine lst_run (run_lss_no rfl rfl (by omega)) rfl ?_
            | refine lst_run (rfl) rfl ?_
          first
            | refine lst_run (run_pick_t rfl (by conv => lhs; whnf)) rfl ?_
            | refine lst_run (run_pick_f rfl (by conv => lhs; whnf)) rfl ?_
          refine lst_run (run_move (by conv => lhs; whnf)) rfl ?_
          refine lst_guard rfl rfl ?_
          refine lst_run (run_move (by conv => lhs; whnf)) rfl ?_
          refine lst_guard rfl rfl ?_
          first
            | refine lst_run (run_gtr_yes rfl rfl (by omega)) rfl ?_
            | refine lst_run (run_gtr_no rfl rfl (by omega)) rfl ?_
            | refine lst_run (rfl) rfl ?_
          first
            | refine lst_run (run_pick_t rfl (by conv => lhs; whnf)) rfl ?_
            | refine lst_run (run_pick_f rfl (by conv => lhs; whnf)) rfl ?_
          refine lst_done ?_
          refine goes_false rfl ?_
          refine goes_skip ?_
          refine goes_seq ?_
          refine goes_region ?_
          refine lst_run (run_move (by conv => lhs; whnf)) rfl ?_
          refine lst_run (run_assign (by conv => lhs; whnf)) rfl ?_
          refine lst_done ?_
          refine goes_ret1 Tryz.func57 rfl (by conv => lhs; whnf) ?_
          exact ⟨rfl, hS⟩
  case range =>
    refine bad (Lib.atoiSat (⟨tok.toArray⟩ : ByteArray).data.toList) (Calls.mono (Any.strconv_Atoi_range_var Tryz.laysC172 ⟨tok.toArray⟩ (by rw [hsz]; omega) (by rw [data_mk]; exact ha) tp2 pp2 w her) ?_) (by simp only [numM, ha])
    rintro e w' ⟨N, rfl, _, _, hb⟩
    exact ⟨N, rfl, hb⟩
  all_goals
    refine bad 0 (Calls.mono (Any.strconv_Atoi_syntax_var Tryz.laysC172 ⟨tok.toArray⟩ (by rw [hsz]; omega) (by rw [data_mk]; exact ha) tp pp w hes) ?_) (by simp only [numM, ha])
    rintro e w' ⟨N, rfl, _, _, hb⟩
    exact ⟨N, rfl, hb⟩
end Go.Proofs.YtdiophafmokfiaaGreatDoor
