/-
  Contracts of the model's and the program's DigestsOf.
-/
import Derived.Test.YtcnoabkpilmanaaDigest
import Derived.Test.YtcnoabkpilmanaaParts
import Derived.Test.YtcnoabkpilmanaaIntsR
namespace Go.Proofs.Ytcnoabkpilmanaa
open Go.RowKit
set_option linter.unusedVariables false

/-- The digests of the first j pieces. -/
def digs (zs : List Int) (j : Nat) : List Int := (List.range j).map fun i => digest (piece zs i)
theorem digs_length (zs : List Int) (j : Nat) : (digs zs j).length = j := by simp [digs]
theorem digs_succ (zs : List Int) (j : Nat) : (digs zs (j + 1)).map (Value.int .i64) = (digs zs j).map (Value.int .i64) ++ [.int .i64 (digest (piece zs j))] := by
  simp [digs, List.range_succ]





end Go.Proofs.Ytcnoabkpilmanaa
