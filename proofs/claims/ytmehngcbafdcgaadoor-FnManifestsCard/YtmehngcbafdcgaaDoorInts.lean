/-
  Contracts of the laws' helpers on slices of int64.
-/
import Derived.Test.YtmehngcbafdcgaaDoorBytes
namespace Go.Proofs.YtmehngcbafdcgaaDoor
open Go.RowKit
set_option linter.unusedVariables false

/-- What is written into a list of n cells of kind i64, from k on. -/
def marks64 (k : Int) (n : Nat) : List Int := (List.range n).map fun (i : Nat) => k + i
theorem marks64_length (k : Int) (n : Nat) : (marks64 k n).length = n := by simp [marks64]
theorem marks64_getD (k : Int) (n i : Nat) (h : i < n) : (marks64 k n).getD i 0 = k + i := by simp [marks64, List.getD_eq_getElem?_getD, h]

theorem Tryd.infoI64 : (Tryd.prog.info? 2).map (fun i => (i.zero, i.size, i.bytes)) = some (some (.int .i64 0), 1, 8) := by kernel_rfl







end Go.Proofs.YtmehngcbafdcgaaDoor
