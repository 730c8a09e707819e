/-
  Sorted keys of a set of numbers: Go's library at this program, laid by the shelf, in plain words.
-/
import Derived.Shelf.SlGeneric
import Derived.Shelf.SlIterI.Nil
import Derived.Shelf.SortM.Plain
import Derived.Shelf.SortM.SortNone
import Derived.Ground.GgzProg
import Derived.Ground.SlgmProg
import Derived.Test.YtajikegfladelaaDoorProg
namespace Go.Proofs
open Go.Shelf
def Tryd.keysA_ren : Go.Shelf.Ren := ⟨fun | 7 => 136 | 10 => 158 | n => n, fun | 23 => 118 | 26 => 2 | 3 => 4 | 28 => 168 | 0 => 0 | 27 => 167 | 33 => 99 | 4 => 4 | n => n, fun | n => n⟩
theorem Tryd.keysA : Go.Proofs.SlLaysZI.n7 Tryd.prog Tryd.keysA_ren := {
  mixed := by kernel_rfl
  f7 := ⟨Tryd.f136.name, by decide, Tryd.func136.trans (congrArg some (by kernel_rfl))⟩
  f10 := ⟨Tryd.f158.name, by decide, Tryd.func158.trans (congrArg some (by kernel_rfl))⟩
  t0 := Tryd.underlying0
  a0 := Tryd.isAgg0
  z0 := Tryd.sizeOf0
  v0 := Tryd.zeroValue0
  t4 := Tryd.underlying4
  a4 := Tryd.isAgg4
  z4 := Tryd.sizeOf4
  v4 := Tryd.zeroValue4
  t23 := Tryd.underlying118
  a23 := Tryd.isAgg118
  z23 := Tryd.sizeOf118
  v23 := Tryd.zeroValue118
  t26 := Tryd.underlying2
  a26 := Tryd.isAgg2
  z26 := Tryd.sizeOf2
  v26 := Tryd.zeroValue2
  t27 := Tryd.underlying167
  a27 := Tryd.isAgg167
  z27 := Tryd.sizeOf167
  v27 := Tryd.zeroValue167
  t28 := Tryd.underlying168
  a28 := Tryd.isAgg168
  z28 := Tryd.sizeOf168
  v28 := Tryd.zeroValue168
  t33 := Tryd.underlying99
  a33 := Tryd.isAgg99
  z33 := Tryd.sizeOf99
  v33 := Tryd.zeroValue99 }
def Tryd.sortedA_ren : Go.Shelf.Ren := ⟨fun | 6 => 135 | 8 => 156 | 9 => 157 | 11 => 175 | 13 => 148 | 12 => 176 | 23 => 170 | 24 => 171 | 14 => 183 | 15 => 184 | 16 => 185 | 17 => 186 | 18 => 187 | 19 => 188 | 20 => 189 | 21 => 190 | 22 => 191 | 25 => 193 | 26 => 178 | 27 => 179 | 28 => 194 | 29 => 195 | 30 => 172 | 31 => 196 | n => n, fun | 26 => 2 | 28 => 168 | 24 => 22 | 0 => 0 | 3 => 3 | 37 => 180 | 48 => 206 | 50 => 154 | 4 => 4 | 40 => 199 | 39 => 198 | 45 => 203 | 5 => 5 | 9 => 9 | 51 => 215 | 55 => 219 | 57 => 228 | 58 => 229 | 33 => 99 | n => n, fun | n => n⟩
theorem Tryd.sortedA : Go.Proofs.SlLaysZI.n6 Tryd.prog Tryd.sortedA_ren := {
  mixed := by kernel_rfl
  f6 := ⟨Tryd.f135.name, by decide, Tryd.func135.trans (congrArg some (by kernel_rfl))⟩
  f8 := ⟨Tryd.f156.name, by decide, Tryd.func156.trans (congrArg some (by kernel_rfl))⟩
  f11 := ⟨Tryd.f175.name, by decide, Tryd.func175.trans (congrArg some (by kernel_rfl))⟩
  t0 := Tryd.underlying0
  a0 := Tryd.isAgg0
  z0 := Tryd.sizeOf0
  v0 := Tryd.zeroValue0
  t24 := Tryd.underlying22
  a24 := Tryd.isAgg22
  z24 := Tryd.sizeOf22
  v24 := Tryd.zeroValue22
  t26 := Tryd.underlying2
  a26 := Tryd.isAgg2
  z26 := Tryd.sizeOf2
  v26 := Tryd.zeroValue2
  t28 := Tryd.underlying168
  a28 := Tryd.isAgg168
  z28 := Tryd.sizeOf168
  v28 := Tryd.zeroValue168
  i26 := by kernel_rfl }
def Tryd.sortA_ren : Go.Shelf.Ren := ⟨fun | 5 => 157 | 8 => 148 | 7 => 176 | 19 => 170 | 20 => 171 | 10 => 183 | 11 => 184 | 12 => 185 | 13 => 186 | 14 => 187 | 15 => 188 | 16 => 189 | 17 => 190 | 18 => 191 | 30 => 193 | 31 => 178 | 32 => 179 | 33 => 194 | 34 => 195 | 35 => 172 | 40 => 196 | n => n, fun | 23 => 22 | 25 => 2 | 3 => 3 | 32 => 180 | 22 => 22 | 0 => 0 | 44 => 206 | 46 => 154 | 4 => 4 | 36 => 199 | 35 => 198 | 41 => 203 | 5 => 5 | 9 => 9 | 53 => 215 | 57 => 219 | 63 => 228 | 64 => 229 | n => n, fun | n => n⟩
theorem Tryd.sortA : Go.Proofs.SlLaysM.n5 Tryd.prog Tryd.sortA_ren := {
  mixed := by kernel_rfl
  f5 := ⟨Tryd.f157.name, by decide, Tryd.func157.trans (congrArg some (by kernel_rfl))⟩
  f7 := ⟨Tryd.f176.name, by decide, Tryd.func176.trans (congrArg some (by kernel_rfl))⟩
  f8 := Tryd.func148.trans (congrArg some (by kernel_rfl))
  f10 := ⟨Tryd.f183.name, by decide, Tryd.func183.trans (congrArg some (by kernel_rfl))⟩
  f11 := ⟨Tryd.f184.name, by decide, Tryd.func184.trans (congrArg some (by kernel_rfl))⟩
  f12 := ⟨Tryd.f185.name, by decide, Tryd.func185.trans (congrArg some (by kernel_rfl))⟩
  f13 := ⟨Tryd.f186.name, by decide, Tryd.func186.trans (congrArg some (by kernel_rfl))⟩
  f14 := ⟨Tryd.f187.name, by decide, Tryd.func187.trans (congrArg some (by kernel_rfl))⟩
  f15 := ⟨Tryd.f188.name, by decide, Tryd.func188.trans (congrArg some (by kernel_rfl))⟩
  f16 := ⟨Tryd.f189.name, by decide, Tryd.func189.trans (congrArg some (by kernel_rfl))⟩
  f17 := ⟨Tryd.f190.name, by decide, Tryd.func190.trans (congrArg some (by kernel_rfl))⟩
  f18 := ⟨Tryd.f191.name, by decide, Tryd.func191.trans (congrArg some (by kernel_rfl))⟩
  f19 := Tryd.func170.trans (congrArg some (by kernel_rfl))
  f20 := Tryd.func171.trans (congrArg some (by kernel_rfl))
  f30 := ⟨Tryd.f193.name, by decide, Tryd.func193.trans (congrArg some (by kernel_rfl))⟩
  f31 := Tryd.func178.trans (congrArg some (by kernel_rfl))
  f32 := Tryd.func179.trans (congrArg some (by kernel_rfl))
  f33 := ⟨Tryd.f194.name, by decide, Tryd.func194.trans (congrArg some (by kernel_rfl))⟩
  f34 := ⟨Tryd.f195.name, by decide, Tryd.func195.trans (congrArg some (by kernel_rfl))⟩
  f35 := ⟨Tryd.f172.name, by decide, Tryd.func172.trans (congrArg some (by kernel_rfl))⟩
  f40 := ⟨Tryd.f196.name, by decide, Tryd.func196.trans (congrArg some (by kernel_rfl))⟩
  t0 := Tryd.underlying0
  a0 := Tryd.isAgg0
  z0 := Tryd.sizeOf0
  v0 := Tryd.zeroValue0
  t3 := Tryd.underlying3
  a3 := Tryd.isAgg3
  z3 := Tryd.sizeOf3
  v3 := Tryd.zeroValue3
  t4 := Tryd.underlying4
  a4 := Tryd.isAgg4
  z4 := Tryd.sizeOf4
  v4 := Tryd.zeroValue4
  t5 := Tryd.underlying5
  a5 := Tryd.isAgg5
  z5 := Tryd.sizeOf5
  v5 := Tryd.zeroValue5
  t9 := Tryd.underlying9
  a9 := Tryd.isAgg9
  z9 := Tryd.sizeOf9
  v9 := Tryd.zeroValue9
  t22 := Tryd.underlying22
  a22 := Tryd.isAgg22
  z22 := Tryd.sizeOf22
  v22 := Tryd.zeroValue22
  t23 := Tryd.underlying22
  a23 := Tryd.isAgg22
  z23 := Tryd.sizeOf22
  v23 := Tryd.zeroValue22
  t25 := Tryd.underlying2
  a25 := Tryd.isAgg2
  z25 := Tryd.sizeOf2
  v25 := Tryd.zeroValue2
  t32 := Tryd.underlying180
  a32 := Tryd.isAgg180
  z32 := Tryd.sizeOf180
  v32 := Tryd.zeroValue180
  t35 := Tryd.underlying198
  a35 := Tryd.isAgg198
  z35 := Tryd.sizeOf198
  v35 := Tryd.zeroValue198
  t36 := Tryd.underlying199
  a36 := Tryd.isAgg199
  z36 := Tryd.sizeOf199
  v36 := Tryd.zeroValue199
  t41 := Tryd.underlying203
  a41 := Tryd.isAgg203
  z41 := Tryd.sizeOf203
  v41 := Tryd.zeroValue203
  t44 := Tryd.underlying206
  a44 := Tryd.isAgg206
  z44 := Tryd.sizeOf206
  v44 := Tryd.zeroValue206
  t46 := Tryd.underlying154
  a46 := Tryd.isAgg154
  z46 := Tryd.sizeOf154
  v46 := Tryd.zeroValue154
  t53 := Tryd.underlying215
  a53 := Tryd.isAgg215
  z53 := Tryd.sizeOf215
  v53 := Tryd.zeroValue215
  t57 := Tryd.underlying219
  a57 := Tryd.isAgg219
  z57 := Tryd.sizeOf219
  v57 := Tryd.zeroValue219
  t63 := Tryd.underlying228
  a63 := Tryd.isAgg228
  z63 := Tryd.sizeOf228
  v63 := Tryd.zeroValue228
  t64 := Tryd.underlying229
  a64 := Tryd.isAgg229
  z64 := Tryd.sizeOf229
  v64 := Tryd.zeroValue229 }
end Go.Proofs
