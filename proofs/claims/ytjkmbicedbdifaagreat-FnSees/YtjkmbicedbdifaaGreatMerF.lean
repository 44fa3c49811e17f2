/-
  What FnMerges asks of lists.
-/
import Derived.Test.YtjkmbicedbdifaaGreatMerD
import Derived.Test.YtjkmbicedbdifaaGreatJ3
import Derived.Test.YtjkmbicedbdifaaGreatTreC
namespace Go.Proofs.YtjkmbicedbdifaaGreat
open Go.RowKit Go.Maps
set_option linter.unusedVariables false

theorem askT_of {t : List En} {p : Bs} (h : RightT t) (hp : faultP p = 0) : askT t p = 0 := by
  unfold askT
  rw [if_pos (rightT_P.2 h)]; exact hp
theorem stat_some {t : List En} {p : Bs} {e : En} (h : RightT t) (hp : faultP p = 0) (hf : findE t p = some e) : statC t p = 0 ∧ statL t p = [e] := by
  have h1 : statC t p = 0 := by simp [statC, askT_of h hp, hf]
  exact ⟨h1, by simp [statL, h1, hf]⟩
theorem stat_none {t : List En} {p : Bs} (h : RightT t) (hp : faultP p = 0) (hf : findE t p = none) : statC t p = 4 ∧ statL t p = [] := by
  have h1 : statC t p = 4 := by simp [statC, askT_of h hp, hf]
  exact ⟨h1, by simp [statL, h1]⟩
theorem merge_right {t L : List En} (ht : FitT t) (hL : Right L) (h40 : (mergeE t L).length ≤ 40) : RightT (mergeE t L) := rightT_fit.2 ⟨merge_fit ht (right_fit.1 hL).1, h40⟩
theorem stat_says {t L : List En} (ht : FitT t) (hL : Right L) (h40 : (mergeE t L).length ≤ 40) {e : En} (he : e ∈ L) :
    (e.kind = 3 → statC (mergeE t L) e.path = 4 ∧ statL (mergeE t L) e.path = []) ∧ (e.kind ≠ 3 → statC (mergeE t L) e.path = 0 ∧ statL (mergeE t L) e.path = [asT e]) := by
  have hF := (right_fit.1 hL).1
  have hM := merge_right ht hL h40
  have hp := hF.path he
  have h1 := merge_find ht hF e.path
  rw [seeT_some (rise_find hL.rise he)] at h1
  constructor
  · intro hk
    rw [if_pos hk] at h1
    exact stat_none hM hp h1
  · intro hk
    rw [if_neg hk] at h1
    exact stat_some hM hp h1
theorem stat_stays {t L : List En} (ht : FitT t) (hL : Right L) (h40 : (mergeE t L).length ≤ 40) {x : En} (hx : x ∈ t) (h1 : findCodeP L x.path ≠ 0) (h2 : hidB L x.path = false) : statC (mergeE t L) x.path = 0 ∧ statL (mergeE t L) x.path = [x] := by
  have hF := (right_fit.1 hL).1
  have hM := merge_right ht hL h40
  have hp := ht.fit.path hx
  have ha := askP_of hL hp
  have hn : findE L x.path = none := by
    cases hf : findE L x.path with
    | none => rfl
    | some e => exact absurd (by simp [findCodeP, ha, hf]) h1
  have hh : hid L x.path = false := by
    cases hq : hid L x.path
    · rfl
    · obtain ⟨e, he, hk, hb⟩ := hid_iff.1 hq
      rw [hidB_good ha, (hides_iff hL hp).2 ⟨e, he, hk, Or.inr hb⟩] at h2
      cases h2
  have h3 := merge_find ht hF x.path
  rw [seeT_none hn, hh] at h3
  simp only [Bool.false_eq_true, if_false] at h3
  rw [rise_find ht.fit.rise hx] at h3
  exact stat_some hM hp h3
theorem merge_again {t L : List En} (ht : FitT t) (hL : Right L) (h40 : (mergeE t L).length ≤ 40) : mrgCode (mergeE t L) L = 0 ∧ mrgList (mergeE t L) L = mergeE t L := by
  have hF := (right_fit.1 hL).1
  have hM := merge_fit ht hF
  have he : mergeE (mergeE t L) L = mergeE t L := by
    refine rise_ext (merge_fit hM hF).fit.rise hM.fit.rise (fun q => ?_)
    rw [merge_find hM hF, merge_find ht hF]
    cases hf : findE L q with
    | some e => rw [seeT_some hf, seeT_some hf]
    | none =>
      rw [seeT_none hf, seeT_none hf]
      cases hh : hid L q
      · simp only [Bool.false_eq_true, if_false]
        rw [merge_find ht hF, seeT_none hf, hh]
        simp
      · rfl
  have h1 := mrg_ok (rightT_P.2 (merge_right ht hL h40)) (right_P.2 hL) (by rw [he]; omega)
  exact ⟨h1.1, by rw [h1.2, he]⟩
theorem asT_file {e : En} (h : entFault e = 0) : ((asT e).kind = 1) ↔ (e.kind = 1) := by
  rcases ent_kinds h with hk | hk | hk | hk <;> simp [asT, kindE, hk]
end Go.Proofs.YtjkmbicedbdifaaGreat
