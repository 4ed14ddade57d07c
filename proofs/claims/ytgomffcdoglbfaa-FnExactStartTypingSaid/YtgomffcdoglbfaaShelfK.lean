import Derived.Ground.GgzProg
import Derived.Ground.SlgmProg
import Derived.Shelf.SortM.Plain
import Derived.Shelf.SortM.SortNone
import Derived.Test.YtgomffcdoglbfaaProg
import Derived.Shelf.SlIterI.Keys
import Derived.Shelf.SlIterI.Sorted
namespace Go.Proofs
open Go.Shelf
def Try.keysW_ren : Go.Shelf.Ren := ⟨fun | 7 => 136 | 10 => 140 | n => n, fun | 23 => 107 | 26 => 2 | 3 => 120 | 28 => 165 | 0 => 0 | 27 => 164 | 33 => 77 | 4 => 4 | n => n, fun | n => n⟩
theorem Try.keysW : Go.Proofs.SlLaysZI.n7 Try.prog Try.keysW_ren := {
  mixed := by kernel_rfl
  f7 := ⟨Try.f136.name, by decide, Try.func136.trans (congrArg some (by kernel_rfl))⟩
  f10 := ⟨Try.f140.name, by decide, Try.func140.trans (congrArg some (by kernel_rfl))⟩
  t0 := Try.underlying0
  a0 := Try.isAgg0
  z0 := Try.sizeOf0
  v0 := Try.zeroValue0
  t4 := Try.underlying4
  a4 := Try.isAgg4
  z4 := Try.sizeOf4
  v4 := Try.zeroValue4
  t23 := Try.underlying107
  a23 := Try.isAgg107
  z23 := Try.sizeOf107
  v23 := Try.zeroValue107
  t26 := Try.underlying2
  a26 := Try.isAgg2
  z26 := Try.sizeOf2
  v26 := Try.zeroValue2
  t27 := Try.underlying164
  a27 := Try.isAgg164
  z27 := Try.sizeOf164
  v27 := Try.zeroValue164
  t28 := Try.underlying165
  a28 := Try.isAgg165
  z28 := Try.sizeOf165
  v28 := Try.zeroValue165
  t33 := Try.underlying77
  a33 := Try.isAgg77
  z33 := Try.sizeOf77
  v33 := Try.zeroValue77 }
def Try.sortedZ_ren : Go.Shelf.Ren := ⟨fun | 6 => 135 | 8 => 138 | 9 => 139 | 11 => 141 | 13 => 143 | 12 => 142 | 23 => 153 | 24 => 154 | 14 => 144 | 15 => 145 | 16 => 146 | 17 => 147 | 18 => 148 | 19 => 149 | 20 => 150 | 21 => 151 | 22 => 152 | 25 => 155 | 26 => 156 | 27 => 157 | 28 => 158 | 29 => 159 | 30 => 160 | 31 => 161 | n => n, fun | 26 => 2 | 28 => 165 | 24 => 39 | 0 => 0 | 3 => 3 | 37 => 172 | 48 => 183 | 50 => 185 | 4 => 4 | 40 => 175 | 39 => 174 | 45 => 180 | 5 => 5 | 9 => 9 | 51 => 186 | 55 => 190 | 57 => 192 | 58 => 193 | 33 => 77 | n => n, fun | n => n⟩
theorem Try.sortedZ : Go.Proofs.SlLaysZI.n6 Try.prog Try.sortedZ_ren := {
  mixed := by kernel_rfl
  f6 := ⟨Try.f135.name, by decide, Try.func135.trans (congrArg some (by kernel_rfl))⟩
  f8 := ⟨Try.f138.name, by decide, Try.func138.trans (congrArg some (by kernel_rfl))⟩
  f11 := ⟨Try.f141.name, by decide, Try.func141.trans (congrArg some (by kernel_rfl))⟩
  t0 := Try.underlying0
  a0 := Try.isAgg0
  z0 := Try.sizeOf0
  v0 := Try.zeroValue0
  t24 := Try.underlying39
  a24 := Try.isAgg39
  z24 := Try.sizeOf39
  v24 := Try.zeroValue39
  t26 := Try.underlying2
  a26 := Try.isAgg2
  z26 := Try.sizeOf2
  v26 := Try.zeroValue2
  t28 := Try.underlying165
  a28 := Try.isAgg165
  z28 := Try.sizeOf165
  v28 := Try.zeroValue165
  i26 := by kernel_rfl }
end Go.Proofs
