/-
  The program's TreeFault, StatTree, ListTree and RemoveTree.
-/
import Derived.Test.YtlbccbikepkfiaaGreatDoorTreB
import Derived.Test.YtlbccbikepkfiaaGreatDoorTreN
import Derived.Test.YtlbccbikepkfiaaGreatDoorJ2
namespace Go.Proofs.YtlbccbikepkfiaaGreatDoor
open Go.RowKit Go.Maps
set_option linter.unusedVariables false
attribute [local go_sem ↓] Go.wp_at_zero Go.wp_at_succ

theorem treP_many {es : List En} (h : 40 < es.length) : treFaultP es = 2 := by simp [treFaultP, h]
theorem treP_kind {es : List En} (h : ¬ 40 < es.length) (hk : (es.any fun e => !treeK e.kind) = true) : treFaultP es = 1 := by
  have : es.all (fun e => treeK e.kind) = false := by
    rw [List.all_eq_false]
    obtain ⟨e, he, h1⟩ := List.any_eq_true.1 hk
    exact ⟨e, he, by simpa using h1⟩
  simp [treFaultP, h, this]
theorem treP_few {es : List En} (h : ¬ 40 < es.length) (hk : (es.any fun e => !treeK e.kind) = false) : treFaultP es = layFromH (homeP es) none es := by
  have : es.all (fun e => treeK e.kind) = true := by
    rw [List.all_eq_true]
    intro e he
    have := List.any_eq_false.1 hk e he
    simpa using this
  rw [treFaultP, if_neg h, this, if_pos rfl]

/-- What is asked of a tree and a path. -/
def askT (es : List En) (p : Bs) : Int := if treFaultP es = 0 then faultP p else treFaultP es

def statC (es : List En) (p : Bs) : Int := if askT es p = 0 then (if (findE es p).isSome then 0 else 4) else askT es p
def statL (es : List En) (p : Bs) : List En := if statC es p = 0 then (findE es p).toList else []
end Go.Proofs.YtlbccbikepkfiaaGreatDoor
