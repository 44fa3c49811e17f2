/-
  The draws of a layer and a tree.
-/
import Derived.Test.YtjkmbicedbdifaaGreatMerM
import Derived.Test.YtjkmbicedbdifaaGreatDrawI
import Derived.Test.YtjkmbicedbdifaaGreatTreF
namespace Go.Proofs.YtjkmbicedbdifaaGreat
open Go.RowKit Go.Maps
set_option linter.unusedVariables false
attribute [local go_sem ↓] Go.wp_at_zero Go.wp_at_succ

theorem smg_mrg {t L : List En} (hg : GoodH t) (hG : Good L) : smgCode t L = mrgCode t L ∧ smgList t L = mrgList t L := by
  have h1 := hg.tree
  have h2 : layFaultP L = layFault L := hG
  have h3 : smgCode t L = mrgCode t L := by unfold smgCode mrgCode; rw [h1, h2]
  exact ⟨h3, by unfold smgList mrgList; rw [h3]⟩
theorem mrg_zero {t L : List En} (h : mrgCode t L = 0) : RightT t ∧ Right L ∧ mrgList t L = mergeE t L ∧ (mergeE t L).length ≤ 40 := by
  by_cases h1 : treFaultP t = 0
  · by_cases h2 : layFaultP L = 0
    · by_cases h3 : 40 < (mergeE t L).length
      · rw [(mrg_many h1 h2 h3).1] at h; cases h
      · exact ⟨rightT_P.1 h1, right_P.1 h2, (mrg_ok h1 h2 h3).2, by omega⟩
    · rw [(mrg_layer h1 h2).1] at h; exact absurd h h2
  · rw [(mrg_tree h1).1] at h; exact absurd h h1
end Go.Proofs.YtjkmbicedbdifaaGreat
