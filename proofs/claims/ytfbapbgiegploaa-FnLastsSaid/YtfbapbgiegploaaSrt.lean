/- Contracts of the library's functions that this seat's program calls. -/
import Derived.Shelf.Spec.SlicesGrow
import Derived.Shelf.SlGeneric
import Derived.Shelf.SortG.Plain
import Derived.Shelf.SortG.SortNone
import Derived.Shelf.SlicesG.CompactI
import Derived.Shelf.SlicesG.Turned
import Derived.Ground.SlgnProg
import Derived.Test.YtfbapbgiegploaaProg
namespace Go.Proofs.Ytfbapbgiegploaa
open Go.Shelf Go.Proofs
set_option linter.unusedVariables false
def Sh.laysSort_ren : Go.Shelf.Ren := ⟨fun | 53 => 231 | 64 => 283 | 63 => 282 | 78 => 281 | 79 => 310 | 70 => 301 | 71 => 302 | 72 => 303 | 73 => 304 | 74 => 305 | 75 => 306 | 59 => 307 | 76 => 308 | 77 => 309 | 88 => 320 | 89 => 321 | 90 => 322 | 91 => 323 | 92 => 324 | 68 => 272 | 96 => 331 | n => n, fun | 22 => 25 | 23 => 2 | 3 => 3 | 51 => 205 | 0 => 0 | 67 => 246 | 69 => 218 | 4 => 4 | 61 => 297 | 60 => 296 | 44 => 301 | 5 => 5 | 9 => 9 | 75 => 306 | 79 => 310 | 83 => 313 | 84 => 314 | n => n, fun | n => n⟩
theorem Sh.laysSort : Go.Proofs.SlLaysN.n53 Try.prog Sh.laysSort_ren := {
  mixed := by kernel_rfl
  f53 := ⟨Try.f231.name, by decide, Try.func231.trans (congrArg some (by kernel_rfl))⟩
  f59 := ⟨Try.f307.name, by decide, Try.func307.trans (congrArg some (by kernel_rfl))⟩
  f63 := ⟨Try.f282.name, by decide, Try.func282.trans (congrArg some (by kernel_rfl))⟩
  f64 := Try.func283.trans (congrArg some (by kernel_rfl))
  f68 := ⟨Try.f272.name, by decide, Try.func272.trans (congrArg some (by kernel_rfl))⟩
  f70 := ⟨Try.f301.name, by decide, Try.func301.trans (congrArg some (by kernel_rfl))⟩
  f71 := ⟨Try.f302.name, by decide, Try.func302.trans (congrArg some (by kernel_rfl))⟩
  f72 := ⟨Try.f303.name, by decide, Try.func303.trans (congrArg some (by kernel_rfl))⟩
  f73 := ⟨Try.f304.name, by decide, Try.func304.trans (congrArg some (by kernel_rfl))⟩
  f74 := ⟨Try.f305.name, by decide, Try.func305.trans (congrArg some (by kernel_rfl))⟩
  f75 := ⟨Try.f306.name, by decide, Try.func306.trans (congrArg some (by kernel_rfl))⟩
  f76 := ⟨Try.f308.name, by decide, Try.func308.trans (congrArg some (by kernel_rfl))⟩
  f77 := ⟨Try.f309.name, by decide, Try.func309.trans (congrArg some (by kernel_rfl))⟩
  f78 := Try.func281.trans (congrArg some (by kernel_rfl))
  f79 := Try.func310.trans (congrArg some (by kernel_rfl))
  f88 := ⟨Try.f320.name, by decide, Try.func320.trans (congrArg some (by kernel_rfl))⟩
  f89 := Try.func321.trans (congrArg some (by kernel_rfl))
  f90 := Try.func322.trans (congrArg some (by kernel_rfl))
  f91 := ⟨Try.f323.name, by decide, Try.func323.trans (congrArg some (by kernel_rfl))⟩
  f92 := ⟨Try.f324.name, by decide, Try.func324.trans (congrArg some (by kernel_rfl))⟩
  f96 := ⟨Try.f331.name, by decide, Try.func331.trans (congrArg some (by kernel_rfl))⟩
  t0 := Try.underlying0
  a0 := Try.isAgg0
  z0 := Try.sizeOf0
  v0 := Try.zeroValue0
  t3 := Try.underlying3
  a3 := Try.isAgg3
  z3 := Try.sizeOf3
  v3 := Try.zeroValue3
  t4 := Try.underlying4
  a4 := Try.isAgg4
  z4 := Try.sizeOf4
  v4 := Try.zeroValue4
  t5 := Try.underlying5
  a5 := Try.isAgg5
  z5 := Try.sizeOf5
  v5 := Try.zeroValue5
  t9 := Try.underlying9
  a9 := Try.isAgg9
  z9 := Try.sizeOf9
  v9 := Try.zeroValue9
  t22 := Try.underlying25
  a22 := Try.isAgg25
  z22 := Try.sizeOf25
  v22 := Try.zeroValue25
  t23 := Try.underlying2
  a23 := Try.isAgg2
  z23 := Try.sizeOf2
  v23 := Try.zeroValue2
  t44 := Try.underlying301
  a44 := Try.isAgg301
  z44 := Try.sizeOf301
  v44 := Try.zeroValue301
  t51 := Try.underlying205
  a51 := Try.isAgg205
  z51 := Try.sizeOf205
  v51 := Try.zeroValue205
  t60 := Try.underlying296
  a60 := Try.isAgg296
  z60 := Try.sizeOf296
  v60 := Try.zeroValue296
  t61 := Try.underlying297
  a61 := Try.isAgg297
  z61 := Try.sizeOf297
  v61 := Try.zeroValue297
  t67 := Try.underlying246
  a67 := Try.isAgg246
  z67 := Try.sizeOf246
  v67 := Try.zeroValue246
  t69 := Try.underlying218
  a69 := Try.isAgg218
  z69 := Try.sizeOf218
  v69 := Try.zeroValue218
  t75 := Try.underlying306
  a75 := Try.isAgg306
  z75 := Try.sizeOf306
  v75 := Try.zeroValue306
  t79 := Try.underlying310
  a79 := Try.isAgg310
  z79 := Try.sizeOf310
  v79 := Try.zeroValue310
  t83 := Try.underlying313
  a83 := Try.isAgg313
  z83 := Try.sizeOf313
  v83 := Try.zeroValue313
  t84 := Try.underlying314
  a84 := Try.isAgg314
  z84 := Try.sizeOf314
  v84 := Try.zeroValue314 }
def Sh.laysCompact_ren : Go.Shelf.Ren := ⟨fun | 43 => 232 | n => n, fun | 22 => 25 | 23 => 2 | 3 => 3 | 4 => 4 | 0 => 0 | n => n, fun | n => n⟩
theorem Sh.laysCompact : Go.Proofs.SlLaysN.n43 Try.prog Sh.laysCompact_ren := {
  mixed := by kernel_rfl
  f43 := ⟨Try.f232.name, by decide, Try.func232.trans (congrArg some (by kernel_rfl))⟩
  t0 := Try.underlying0
  a0 := Try.isAgg0
  z0 := Try.sizeOf0
  v0 := Try.zeroValue0
  t3 := Try.underlying3
  a3 := Try.isAgg3
  z3 := Try.sizeOf3
  v3 := Try.zeroValue3
  t4 := Try.underlying4
  a4 := Try.isAgg4
  z4 := Try.sizeOf4
  v4 := Try.zeroValue4
  t22 := Try.underlying25
  a22 := Try.isAgg25
  z22 := Try.sizeOf25
  v22 := Try.zeroValue25
  t23 := Try.underlying2
  a23 := Try.isAgg2
  z23 := Try.sizeOf2
  v23 := Try.zeroValue2
  i23 := by kernel_rfl }
def Sh.laysContains_ren : Go.Shelf.Ren := ⟨fun | 31 => 156 | 29 => 235 | n => n, fun | 22 => 25 | 23 => 2 | 4 => 4 | 3 => 3 | 0 => 0 | n => n, fun | n => n⟩
theorem Sh.laysContains : Go.Proofs.SlLaysN.n31 Try.prog Sh.laysContains_ren := {
  mixed := by kernel_rfl
  f29 := ⟨Try.f235.name, by decide, Try.func235.trans (congrArg some (by kernel_rfl))⟩
  f31 := ⟨Try.f156.name, by decide, Try.func156.trans (congrArg some (by kernel_rfl))⟩
  t0 := Try.underlying0
  a0 := Try.isAgg0
  z0 := Try.sizeOf0
  v0 := Try.zeroValue0
  t3 := Try.underlying3
  a3 := Try.isAgg3
  z3 := Try.sizeOf3
  v3 := Try.zeroValue3
  t4 := Try.underlying4
  a4 := Try.isAgg4
  z4 := Try.sizeOf4
  v4 := Try.zeroValue4
  t22 := Try.underlying25
  a22 := Try.isAgg25
  z22 := Try.sizeOf25
  v22 := Try.zeroValue25
  t23 := Try.underlying2
  a23 := Try.isAgg2
  z23 := Try.sizeOf2
  v23 := Try.zeroValue2 }
def Sh.laysGrow_ren : Go.Shelf.Ren := ⟨fun | 4 => 234 | n => n, fun | 22 => 25 | 25 => 2 | 3 => 3 | 4 => 4 | 9 => 9 | 20 => 20 | 0 => 0 | n => n, fun | n => n⟩
theorem Sh.laysGrow : Go.Proofs.Lays8.n4 Try.prog Sh.laysGrow_ren := {
  mixed := by kernel_rfl
  f4 := ⟨Try.f234.name, by decide, Try.func234.trans (congrArg some (by kernel_rfl))⟩
  t0 := Try.underlying0
  a0 := Try.isAgg0
  z0 := Try.sizeOf0
  v0 := Try.zeroValue0
  t3 := Try.underlying3
  a3 := Try.isAgg3
  z3 := Try.sizeOf3
  v3 := Try.zeroValue3
  t4 := Try.underlying4
  a4 := Try.isAgg4
  z4 := Try.sizeOf4
  v4 := Try.zeroValue4
  t9 := Try.underlying9
  a9 := Try.isAgg9
  z9 := Try.sizeOf9
  v9 := Try.zeroValue9
  t20 := Try.underlying20
  a20 := Try.isAgg20
  z20 := Try.sizeOf20
  v20 := Try.zeroValue20
  t22 := Try.underlying25
  a22 := Try.isAgg25
  z22 := Try.sizeOf25
  v22 := Try.zeroValue25 }

end Go.Proofs.Ytfbapbgiegploaa
