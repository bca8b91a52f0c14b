/- Contracts of the library's functions that this seat's program calls. -/
import Derived.Shelf.Spec.SlicesGrow
import Derived.Shelf.SlGeneric
import Derived.Shelf.SortG.Plain
import Derived.Shelf.SortG.SortNone
import Derived.Shelf.SlicesG.CompactI
import Derived.Shelf.SlicesG.Turned
import Derived.Ground.SlgnProg
import Derived.Test.YtfmjohpmfcmpoabProg
namespace Go.Proofs.Ytfmjohpmfcmpoab
open Go.Shelf Go.Proofs
set_option linter.unusedVariables false
def Sh.laysSort_ren : Go.Shelf.Ren := ⟨fun | 53 => 81 | 64 => 139 | 63 => 138 | 78 => 183 | 79 => 184 | 70 => 175 | 71 => 176 | 72 => 177 | 73 => 178 | 74 => 179 | 75 => 180 | 59 => 137 | 76 => 181 | 77 => 182 | 88 => 202 | 89 => 203 | 90 => 204 | 91 => 205 | 92 => 206 | 68 => 144 | 96 => 214 | n => n, fun | 22 => 22 | 23 => 2 | 3 => 3 | 51 => 163 | 0 => 0 | 67 => 200 | 69 => 202 | 4 => 4 | 61 => 193 | 60 => 192 | 44 => 197 | 5 => 5 | 9 => 9 | 75 => 218 | 79 => 222 | 83 => 227 | 84 => 228 | n => n, fun | n => n⟩
theorem Sh.laysSort : Go.Proofs.SlLaysN.n53 Try.prog Sh.laysSort_ren := {
  mixed := by kernel_rfl
  f53 := ⟨Try.f81.name, by decide, Try.func81.trans (congrArg some (by kernel_rfl))⟩
  f59 := ⟨Try.f137.name, by decide, Try.func137.trans (congrArg some (by kernel_rfl))⟩
  f63 := ⟨Try.f138.name, by decide, Try.func138.trans (congrArg some (by kernel_rfl))⟩
  f64 := Try.func139.trans (congrArg some (by kernel_rfl))
  f68 := ⟨Try.f144.name, by decide, Try.func144.trans (congrArg some (by kernel_rfl))⟩
  f70 := ⟨Try.f175.name, by decide, Try.func175.trans (congrArg some (by kernel_rfl))⟩
  f71 := ⟨Try.f176.name, by decide, Try.func176.trans (congrArg some (by kernel_rfl))⟩
  f72 := ⟨Try.f177.name, by decide, Try.func177.trans (congrArg some (by kernel_rfl))⟩
  f73 := ⟨Try.f178.name, by decide, Try.func178.trans (congrArg some (by kernel_rfl))⟩
  f74 := ⟨Try.f179.name, by decide, Try.func179.trans (congrArg some (by kernel_rfl))⟩
  f75 := ⟨Try.f180.name, by decide, Try.func180.trans (congrArg some (by kernel_rfl))⟩
  f76 := ⟨Try.f181.name, by decide, Try.func181.trans (congrArg some (by kernel_rfl))⟩
  f77 := ⟨Try.f182.name, by decide, Try.func182.trans (congrArg some (by kernel_rfl))⟩
  f78 := Try.func183.trans (congrArg some (by kernel_rfl))
  f79 := Try.func184.trans (congrArg some (by kernel_rfl))
  f88 := ⟨Try.f202.name, by decide, Try.func202.trans (congrArg some (by kernel_rfl))⟩
  f89 := Try.func203.trans (congrArg some (by kernel_rfl))
  f90 := Try.func204.trans (congrArg some (by kernel_rfl))
  f91 := ⟨Try.f205.name, by decide, Try.func205.trans (congrArg some (by kernel_rfl))⟩
  f92 := ⟨Try.f206.name, by decide, Try.func206.trans (congrArg some (by kernel_rfl))⟩
  f96 := ⟨Try.f214.name, by decide, Try.func214.trans (congrArg some (by kernel_rfl))⟩
  t0 := Try.underlying0
  a0 := Try.isAgg0
  z0 := Try.sizeOf0
  v0 := Try.zeroValue0
  t3 := Try.underlying3
  a3 := Try.isAgg3
  z3 := Try.sizeOf3
  v3 := Try.zeroValue3
  t4 := Try.underlying4
  a4 := Try.isAgg4
  z4 := Try.sizeOf4
  v4 := Try.zeroValue4
  t5 := Try.underlying5
  a5 := Try.isAgg5
  z5 := Try.sizeOf5
  v5 := Try.zeroValue5
  t9 := Try.underlying9
  a9 := Try.isAgg9
  z9 := Try.sizeOf9
  v9 := Try.zeroValue9
  t22 := Try.underlying22
  a22 := Try.isAgg22
  z22 := Try.sizeOf22
  v22 := Try.zeroValue22
  t23 := Try.underlying2
  a23 := Try.isAgg2
  z23 := Try.sizeOf2
  v23 := Try.zeroValue2
  t44 := Try.underlying197
  a44 := Try.isAgg197
  z44 := Try.sizeOf197
  v44 := Try.zeroValue197
  t51 := Try.underlying163
  a51 := Try.isAgg163
  z51 := Try.sizeOf163
  v51 := Try.zeroValue163
  t60 := Try.underlying192
  a60 := Try.isAgg192
  z60 := Try.sizeOf192
  v60 := Try.zeroValue192
  t61 := Try.underlying193
  a61 := Try.isAgg193
  z61 := Try.sizeOf193
  v61 := Try.zeroValue193
  t67 := Try.underlying200
  a67 := Try.isAgg200
  z67 := Try.sizeOf200
  v67 := Try.zeroValue200
  t69 := Try.underlying202
  a69 := Try.isAgg202
  z69 := Try.sizeOf202
  v69 := Try.zeroValue202
  t75 := Try.underlying218
  a75 := Try.isAgg218
  z75 := Try.sizeOf218
  v75 := Try.zeroValue218
  t79 := Try.underlying222
  a79 := Try.isAgg222
  z79 := Try.sizeOf222
  v79 := Try.zeroValue222
  t83 := Try.underlying227
  a83 := Try.isAgg227
  z83 := Try.sizeOf227
  v83 := Try.zeroValue227
  t84 := Try.underlying228
  a84 := Try.isAgg228
  z84 := Try.sizeOf228
  v84 := Try.zeroValue228 }
def Sh.laysContains_ren : Go.Shelf.Ren := ⟨fun | 31 => 174 | 29 => 134 | n => n, fun | 22 => 22 | 23 => 2 | 4 => 4 | 3 => 3 | 0 => 0 | n => n, fun | n => n⟩
theorem Sh.laysContains : Go.Proofs.SlLaysN.n31 Try.prog Sh.laysContains_ren := {
  mixed := by kernel_rfl
  f29 := ⟨Try.f134.name, by decide, Try.func134.trans (congrArg some (by kernel_rfl))⟩
  f31 := ⟨Try.f174.name, by decide, Try.func174.trans (congrArg some (by kernel_rfl))⟩
  t0 := Try.underlying0
  a0 := Try.isAgg0
  z0 := Try.sizeOf0
  v0 := Try.zeroValue0
  t3 := Try.underlying3
  a3 := Try.isAgg3
  z3 := Try.sizeOf3
  v3 := Try.zeroValue3
  t4 := Try.underlying4
  a4 := Try.isAgg4
  z4 := Try.sizeOf4
  v4 := Try.zeroValue4
  t22 := Try.underlying22
  a22 := Try.isAgg22
  z22 := Try.sizeOf22
  v22 := Try.zeroValue22
  t23 := Try.underlying2
  a23 := Try.isAgg2
  z23 := Try.sizeOf2
  v23 := Try.zeroValue2 }
def Sh.laysGrow_ren : Go.Shelf.Ren := ⟨fun | 4 => 185 | n => n, fun | 22 => 22 | 25 => 2 | 3 => 3 | 4 => 4 | 9 => 9 | 20 => 20 | 0 => 0 | n => n, fun | n => n⟩
theorem Sh.laysGrow : Go.Proofs.Lays8.n4 Try.prog Sh.laysGrow_ren := {
  mixed := by kernel_rfl
  f4 := ⟨Try.f185.name, by decide, Try.func185.trans (congrArg some (by kernel_rfl))⟩
  t0 := Try.underlying0
  a0 := Try.isAgg0
  z0 := Try.sizeOf0
  v0 := Try.zeroValue0
  t3 := Try.underlying3
  a3 := Try.isAgg3
  z3 := Try.sizeOf3
  v3 := Try.zeroValue3
  t4 := Try.underlying4
  a4 := Try.isAgg4
  z4 := Try.sizeOf4
  v4 := Try.zeroValue4
  t9 := Try.underlying9
  a9 := Try.isAgg9
  z9 := Try.sizeOf9
  v9 := Try.zeroValue9
  t20 := Try.underlying20
  a20 := Try.isAgg20
  z20 := Try.sizeOf20
  v20 := Try.zeroValue20
  t22 := Try.underlying22
  a22 := Try.isAgg22
  z22 := Try.sizeOf22
  v22 := Try.zeroValue22 }

end Go.Proofs.Ytfmjohpmfcmpoab
