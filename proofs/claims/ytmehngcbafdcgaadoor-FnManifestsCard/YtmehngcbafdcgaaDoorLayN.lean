/-
  The library's contract on strconv.FormatInt, laid at this dump in plain words.
-/
import Derived.Shelf.Strconv.Itoa4
import Derived.Shelf.Strings.Prefix
import Derived.Test.YtmehngcbafdcgaaDoorProg
namespace Go.Proofs.YtmehngcbafdcgaaDoor
open Go.RowKit Go.Shelf
set_option linter.unusedVariables false
def Tryd.trimA_ren : Go.Shelf.Ren := ⟨fun | 102 => 34 | 209 => 45 | 207 => 51 | n => n, fun | 9 => 9 | 4 => 4 | 3 => 3 | n => n, fun | n => n⟩
theorem Tryd.trimA : Go.Proofs.Lays.n102 Tryd.prog Tryd.trimA_ren := {
  mixed := by kernel_rfl
  f102 := Tryd.func34.trans (congrArg some (by kernel_rfl))
  f207 := Tryd.func51.trans (congrArg some (by kernel_rfl))
  f209 := Tryd.func45.trans (congrArg some (by kernel_rfl))
  t3 := Tryd.underlying3
  a3 := Tryd.isAgg3
  z3 := Tryd.sizeOf3
  v3 := Tryd.zeroValue3
  t4 := Tryd.underlying4
  a4 := Tryd.isAgg4
  z4 := Tryd.sizeOf4
  v4 := Tryd.zeroValue4
  t9 := Tryd.underlying9
  a9 := Tryd.isAgg9
  z9 := Tryd.sizeOf9
  v9 := Tryd.zeroValue9 }
end Go.Proofs.YtmehngcbafdcgaaDoor
