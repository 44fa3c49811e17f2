/-
  The program's questions of a list of items: has, those, without; the closures isAt, isIn and the one of TreeFault.
-/
import Derived.Test.YtlbccbikepkfiaaGreatDoorTreA
import Derived.Test.YtlbccbikepkfiaaGreatDoorJ2
import Derived.Shelf.Abstract
namespace Go.Proofs.YtlbccbikepkfiaaGreatDoor
open Go.RowKit Go.Maps
set_option linter.unusedVariables false
attribute [local go_sem ↓] Go.wp_at_zero Go.wp_at_succ


theorem filter_in {es : List En} {f : En → Bool} {k : Nat} {e : En} (he : es[k]? = some e) (h : f e = true) : (es.take (k + 1)).filter f = (es.take k).filter f ++ [e] := by
  rw [take_snoc_at he, List.filter_append]; simp [h]
theorem filter_out {es : List En} {f : En → Bool} {k : Nat} {e : En} (he : es[k]? = some e) (h : f e = false) : (es.take (k + 1)).filter f = (es.take k).filter f := by
  rw [take_snoc_at he, List.filter_append]; simp [h]



/-- Is it right in the directory of p? -/
def inP (p : Bs) (e : En) : Bool := if parC e.path = 4 then decide (p = [47]) else decide (parT e.path = p)



end Go.Proofs.YtlbccbikepkfiaaGreatDoor
