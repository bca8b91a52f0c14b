/- Contracts of the library's functions that this seat's program calls. -/
import Derived.Shelf.Spec.SlicesGrow
import Derived.Shelf.SlGeneric
import Derived.Shelf.SortG.Plain
import Derived.Shelf.SortG.SortNone
import Derived.Shelf.SlicesG.CompactI
import Derived.Shelf.SlicesG.Turned
import Derived.Ground.SlgnProg
import Derived.Test.YtplngjbllllanaaProg
namespace Go.Proofs.Ytplngjbllllanaa
open Go.Shelf Go.Proofs
set_option linter.unusedVariables false
def Sh.laysSort_ren : Go.Shelf.Ren := ⟨fun | 53 => 176 | 64 => 192 | 63 => 191 | 78 => 207 | 79 => 208 | 70 => 199 | 71 => 200 | 72 => 201 | 73 => 202 | 74 => 203 | 75 => 204 | 59 => 101 | 76 => 205 | 77 => 206 | 88 => 214 | 89 => 215 | 90 => 216 | 91 => 217 | 92 => 218 | 68 => 154 | 96 => 222 | n => n, fun | 22 => 40 | 23 => 2 | 3 => 3 | 51 => 125 | 0 => 0 | 67 => 200 | 69 => 164 | 4 => 4 | 61 => 193 | 60 => 192 | 44 => 197 | 5 => 5 | 9 => 9 | 75 => 207 | 79 => 211 | 83 => 214 | 84 => 215 | n => n, fun | n => n⟩
theorem Sh.laysSort : Go.Proofs.SlLaysN.n53 Try.prog Sh.laysSort_ren := {
  mixed := by kernel_rfl
  f53 := ⟨Try.f176.name, by decide, Try.func176.trans (congrArg some (by kernel_rfl))⟩
  f59 := ⟨Try.f101.name, by decide, Try.func101.trans (congrArg some (by kernel_rfl))⟩
  f63 := ⟨Try.f191.name, by decide, Try.func191.trans (congrArg some (by kernel_rfl))⟩
  f64 := Try.func192.trans (congrArg some (by kernel_rfl))
  f68 := ⟨Try.f154.name, by decide, Try.func154.trans (congrArg some (by kernel_rfl))⟩
  f70 := ⟨Try.f199.name, by decide, Try.func199.trans (congrArg some (by kernel_rfl))⟩
  f71 := ⟨Try.f200.name, by decide, Try.func200.trans (congrArg some (by kernel_rfl))⟩
  f72 := ⟨Try.f201.name, by decide, Try.func201.trans (congrArg some (by kernel_rfl))⟩
  f73 := ⟨Try.f202.name, by decide, Try.func202.trans (congrArg some (by kernel_rfl))⟩
  f74 := ⟨Try.f203.name, by decide, Try.func203.trans (congrArg some (by kernel_rfl))⟩
  f75 := ⟨Try.f204.name, by decide, Try.func204.trans (congrArg some (by kernel_rfl))⟩
  f76 := ⟨Try.f205.name, by decide, Try.func205.trans (congrArg some (by kernel_rfl))⟩
  f77 := ⟨Try.f206.name, by decide, Try.func206.trans (congrArg some (by kernel_rfl))⟩
  f78 := Try.func207.trans (congrArg some (by kernel_rfl))
  f79 := Try.func208.trans (congrArg some (by kernel_rfl))
  f88 := ⟨Try.f214.name, by decide, Try.func214.trans (congrArg some (by kernel_rfl))⟩
  f89 := Try.func215.trans (congrArg some (by kernel_rfl))
  f90 := Try.func216.trans (congrArg some (by kernel_rfl))
  f91 := ⟨Try.f217.name, by decide, Try.func217.trans (congrArg some (by kernel_rfl))⟩
  f92 := ⟨Try.f218.name, by decide, Try.func218.trans (congrArg some (by kernel_rfl))⟩
  f96 := ⟨Try.f222.name, by decide, Try.func222.trans (congrArg some (by kernel_rfl))⟩
  t0 := Try.underlying0
  a0 := Try.isAgg0
  z0 := Try.sizeOf0
  v0 := Try.zeroValue0
  t3 := Try.underlying3
  a3 := Try.isAgg3
  z3 := Try.sizeOf3
  v3 := Try.zeroValue3
  t4 := Try.underlying4
  a4 := Try.isAgg4
  z4 := Try.sizeOf4
  v4 := Try.zeroValue4
  t5 := Try.underlying5
  a5 := Try.isAgg5
  z5 := Try.sizeOf5
  v5 := Try.zeroValue5
  t9 := Try.underlying9
  a9 := Try.isAgg9
  z9 := Try.sizeOf9
  v9 := Try.zeroValue9
  t22 := Try.underlying40
  a22 := Try.isAgg40
  z22 := Try.sizeOf40
  v22 := Try.zeroValue40
  t23 := Try.underlying2
  a23 := Try.isAgg2
  z23 := Try.sizeOf2
  v23 := Try.zeroValue2
  t44 := Try.underlying197
  a44 := Try.isAgg197
  z44 := Try.sizeOf197
  v44 := Try.zeroValue197
  t51 := Try.underlying125
  a51 := Try.isAgg125
  z51 := Try.sizeOf125
  v51 := Try.zeroValue125
  t60 := Try.underlying192
  a60 := Try.isAgg192
  z60 := Try.sizeOf192
  v60 := Try.zeroValue192
  t61 := Try.underlying193
  a61 := Try.isAgg193
  z61 := Try.sizeOf193
  v61 := Try.zeroValue193
  t67 := Try.underlying200
  a67 := Try.isAgg200
  z67 := Try.sizeOf200
  v67 := Try.zeroValue200
  t69 := Try.underlying164
  a69 := Try.isAgg164
  z69 := Try.sizeOf164
  v69 := Try.zeroValue164
  t75 := Try.underlying207
  a75 := Try.isAgg207
  z75 := Try.sizeOf207
  v75 := Try.zeroValue207
  t79 := Try.underlying211
  a79 := Try.isAgg211
  z79 := Try.sizeOf211
  v79 := Try.zeroValue211
  t83 := Try.underlying214
  a83 := Try.isAgg214
  z83 := Try.sizeOf214
  v83 := Try.zeroValue214
  t84 := Try.underlying215
  a84 := Try.isAgg215
  z84 := Try.sizeOf215
  v84 := Try.zeroValue215 }

end Go.Proofs.Ytplngjbllllanaa
