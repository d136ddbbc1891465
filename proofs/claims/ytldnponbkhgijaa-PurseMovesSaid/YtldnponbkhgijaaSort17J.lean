import Derived.Shelf.SlGeneric
import Derived.Shelf.SlSortCmp.WholeK
import Derived.Ground.SlsfProg
import Derived.Test.YtldnponbkhgijaaProg
/-
  The contract of slices.SortFunc at this translation, laid by the kit.
-/
namespace Go.Proofs
open Go.Shelf
def Try.sortFlow_ren : Go.Shelf.Ren := ⟨fun | 6 => 146 | 15 => 193 | 14 => 192 | 28 => 222 | 29 => 223 | 20 => 214 | 21 => 215 | 22 => 216 | 23 => 217 | 24 => 218 | 25 => 219 | 26 => 220 | 27 => 221 | 46 => 230 | 47 => 231 | 48 => 232 | 49 => 233 | 50 => 234 | 57 => 238 | n => n, fun | 22 => 22 | 24 => 48 | 25 => 198 | 3 => 3 | 39 => 187 | 0 => 0 | 53 => 260 | 55 => 26 | 4 => 4 | 46 => 253 | 45 => 252 | 50 => 257 | 5 => 5 | 9 => 9 | 66 => 265 | 70 => 269 | 76 => 273 | 77 => 274 | n => n, fun | n => n⟩
theorem Try.sortFlow : Go.Proofs.SlLaysF0.n6 Try.prog Try.sortFlow_ren := {
  mixed := by kernel_rfl
  f6 := ⟨Try.f146.name, by decide, Try.func146.trans (congrArg some (by kernel_rfl))⟩
  f14 := ⟨Try.f192.name, by decide, Try.func192.trans (congrArg some (by kernel_rfl))⟩
  f15 := Try.func193.trans (congrArg some (by kernel_rfl))
  f20 := ⟨Try.f214.name, by decide, Try.func214.trans (congrArg some (by kernel_rfl))⟩
  f21 := ⟨Try.f215.name, by decide, Try.func215.trans (congrArg some (by kernel_rfl))⟩
  f22 := ⟨Try.f216.name, by decide, Try.func216.trans (congrArg some (by kernel_rfl))⟩
  f23 := ⟨Try.f217.name, by decide, Try.func217.trans (congrArg some (by kernel_rfl))⟩
  f24 := ⟨Try.f218.name, by decide, Try.func218.trans (congrArg some (by kernel_rfl))⟩
  f25 := ⟨Try.f219.name, by decide, Try.func219.trans (congrArg some (by kernel_rfl))⟩
  f26 := ⟨Try.f220.name, by decide, Try.func220.trans (congrArg some (by kernel_rfl))⟩
  f27 := ⟨Try.f221.name, by decide, Try.func221.trans (congrArg some (by kernel_rfl))⟩
  f28 := Try.func222.trans (congrArg some (by kernel_rfl))
  f29 := Try.func223.trans (congrArg some (by kernel_rfl))
  f46 := ⟨Try.f230.name, by decide, Try.func230.trans (congrArg some (by kernel_rfl))⟩
  f47 := Try.func231.trans (congrArg some (by kernel_rfl))
  f48 := Try.func232.trans (congrArg some (by kernel_rfl))
  f49 := ⟨Try.f233.name, by decide, Try.func233.trans (congrArg some (by kernel_rfl))⟩
  f50 := ⟨Try.f234.name, by decide, Try.func234.trans (congrArg some (by kernel_rfl))⟩
  f57 := ⟨Try.f238.name, by decide, Try.func238.trans (congrArg some (by kernel_rfl))⟩
  t0 := Try.underlying0
  a0 := Try.isAgg0
  z0 := Try.sizeOf0
  v0 := Try.zeroValue0
  t3 := Try.underlying3
  a3 := Try.isAgg3
  z3 := Try.sizeOf3
  v3 := Try.zeroValue3
  t4 := Try.underlying4
  a4 := Try.isAgg4
  z4 := Try.sizeOf4
  v4 := Try.zeroValue4
  t5 := Try.underlying5
  a5 := Try.isAgg5
  z5 := Try.sizeOf5
  v5 := Try.zeroValue5
  t9 := Try.underlying9
  a9 := Try.isAgg9
  z9 := Try.sizeOf9
  v9 := Try.zeroValue9
  t22 := Try.underlying22
  a22 := Try.isAgg22
  z22 := Try.sizeOf22
  v22 := Try.zeroValue22
  t25 := Try.underlying198
  a25 := Try.isAgg198
  z25 := Try.sizeOf198
  v25 := Try.zeroValue198
  t39 := Try.underlying187
  a39 := Try.isAgg187
  z39 := Try.sizeOf187
  v39 := Try.zeroValue187
  t45 := Try.underlying252
  a45 := Try.isAgg252
  z45 := Try.sizeOf252
  v45 := Try.zeroValue252
  t46 := Try.underlying253
  a46 := Try.isAgg253
  z46 := Try.sizeOf253
  v46 := Try.zeroValue253
  t50 := Try.underlying257
  a50 := Try.isAgg257
  z50 := Try.sizeOf257
  v50 := Try.zeroValue257
  t53 := Try.underlying260
  a53 := Try.isAgg260
  z53 := Try.sizeOf260
  v53 := Try.zeroValue260
  t55 := Try.underlying26
  a55 := Try.isAgg26
  z55 := Try.sizeOf26
  v55 := Try.zeroValue26
  t66 := Try.underlying265
  a66 := Try.isAgg265
  z66 := Try.sizeOf265
  v66 := Try.zeroValue265
  t70 := Try.underlying269
  a70 := Try.isAgg269
  z70 := Try.sizeOf269
  v70 := Try.zeroValue269
  t76 := Try.underlying273
  a76 := Try.isAgg273
  z76 := Try.sizeOf273
  v76 := Try.zeroValue273
  t77 := Try.underlying274
  a77 := Try.isAgg274
  z77 := Try.sizeOf274
  v77 := Try.zeroValue274 }
end Go.Proofs
