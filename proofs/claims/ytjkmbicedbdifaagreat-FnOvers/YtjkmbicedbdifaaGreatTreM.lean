/-
  The model's trees: the fault of a tree, the home, the names in a directory, what is written, made and removed.
-/
import Derived.Test.YtjkmbicedbdifaaGreatJ2
import Derived.Test.YtjkmbicedbdifaaGreatJ1
namespace Go.Proofs.YtjkmbicedbdifaaGreat
open Go.RowKit Go.Maps
set_option linter.unusedVariables false
attribute [local go_sem ↓] Go.wp_at_zero Go.wp_at_succ

theorem treFault_many {es : List En} (h : 40 < es.length) : treFault es = 2 := by simp [treFault, h]
theorem treFault_few {es : List En} (h : ¬ 40 < es.length) : es.all (fun e => treeK e.kind) = true → treFault es = layFrom es (prevE es 0) (es.drop 0) := by intro hk; simp [treFault, h, hk, prevE]
theorem treFault_kind {es : List En} (h : ¬ 40 < es.length) : es.all (fun e => treeK e.kind) = false → treFault es = 1 := by intro hk; simp [treFault, h, hk]


theorem homeC_at_none {es : List En} {p : Bs} (h : parentP p ≠ []) (ha : atE es (parentP p) = none) : homeC es p = 4 := homeC_none h (by rw [atE_find, ha]; rfl)
theorem find_at {es : List En} {q : Bs} {k : Nat} {e : En} (ha : atE es q = some k) (he : es[k]? = some e) : findE es q = some e := by rw [atE_find, ha]; exact he
end Go.Proofs.YtjkmbicedbdifaaGreat
