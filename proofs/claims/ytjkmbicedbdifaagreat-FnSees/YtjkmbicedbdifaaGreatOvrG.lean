/-
  What FnOvers asks of lists.
-/
import Derived.Test.YtjkmbicedbdifaaGreatSeeJ
import Derived.Test.YtjkmbicedbdifaaGreatSeeS
import Derived.Test.YtjkmbicedbdifaaGreatMerF
namespace Go.Proofs.YtjkmbicedbdifaaGreat
set_option linter.unusedVariables false

theorem askL_of {ls : List (List En)} {p : Bs} (h : layersP ls = 0) (hp : faultP p = 0) : askL ls p = 0 := by
  unfold askL
  rw [if_pos h]; exact hp
/-- All that the law asks, where the layers are right and their tree has room. -/
structure Overs (ls : List (List En)) (T : List En) : Prop where
  tree : malL ls = T
  paths : pthL ls = T.map En.path
  look : ∀ e ∈ T, plcC ls e.path = 0 ∧ lookL ls e.path = [e]
  same : ∀ es ∈ ls, ∀ e ∈ es, (plcC ls e.path = 0 ↔ statC T e.path = 0)
  right : RightT T
theorem mal_zero {ls : List (List En)} (h : malC ls = 0) : layersP ls = 0 ∧ malL ls = allE ls ∧ (allE ls).length ≤ 40 := by
  by_cases hz : layersP ls = 0
  · refine ⟨hz, by rw [malL, if_pos h], ?_⟩
    unfold malC at h
    rw [if_pos hz] at h
    cases hm : malOK ls
    · rw [hm] at h; cases h
    · have := (List.all_eq_true.1 hm) ls.length (List.mem_range.2 (by omega))
      rw [List.take_length] at this
      exact of_decide_eq_true this
  · rw [(mal_bad hz).1] at h; exact absurd h hz
theorem overs_of {ls : List (List En)} (h : malC ls = 0) : Overs ls (allE ls) := by
  obtain ⟨hz, hm, h40⟩ := mal_zero h
  obtain ⟨h4, hR⟩ := layersP_zero.1 hz
  have hF := rights_fit hR
  have hfa := all_fit hF
  have hT := rightT_fit.2 ⟨hfa, h40⟩
  refine ⟨hm, by rw [pthL, if_pos hz], fun e he => ?_, fun es hes e he => ?_, hT⟩
  · have hp := hfa.fit.path he
    obtain ⟨h1, h2⟩ := look_all (askL_of hz hp)
    rw [rise_find hfa.fit.rise he] at h1 h2
    exact ⟨by simpa using h1, by simpa using h2⟩
  · have hp := (hF es hes).path he
    obtain ⟨h1, -⟩ := look_all (askL_of hz hp)
    rw [h1, statC, if_pos (askT_of hT hp)]
end Go.Proofs.YtjkmbicedbdifaaGreat
