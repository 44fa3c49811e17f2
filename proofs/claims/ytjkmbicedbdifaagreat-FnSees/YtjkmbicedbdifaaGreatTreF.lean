/-
  The model's draws of a tree that may be bent, and of a path with it.
-/
import Derived.Test.YtjkmbicedbdifaaGreatDrawI
import Derived.Test.YtjkmbicedbdifaaGreatTreE
namespace Go.Proofs.YtjkmbicedbdifaaGreat
open Go.RowKit Go.Maps
set_option linter.unusedVariables false
attribute [local go_sem ↓] Go.wp_at_zero Go.wp_at_succ

theorem makeL_len (es : List En) (p : Bs) : (makeL es p).length ≤ es.length + 1 := by
  unfold makeL; split
  · exact put_len_le _ _
  · omega
theorem writeL_len (es : List En) (p : Bs) (ds : List Int) : (writeL es p ds).length ≤ es.length + 1 := by
  unfold writeL; split
  · exact put_len_le _ _
  · omega
theorem removeL_len (es : List En) (p : Bs) : (removeL es p).length ≤ es.length + 1 := by
  unfold removeL; split
  · have := offE_len es p; omega
  · omega

/-- A drawn tree. -/
def LayT (w : World) (p : Nat) (zs : List Int) (T : Int) (es : List En) (v : Value) (w' : World) : Prop :=
  GoodH es ∧ es.length ≤ 41 ∧ SmallE es ∧ GE w.heap.size w'.heap.size w' v es ∧ SrcX w' p zs T ∧ Kept (fun b => b = p) w w'



end Go.Proofs.YtjkmbicedbdifaaGreat
