/-
  The program's ListTree and RemoveTree.
-/
import Derived.Test.YtjcjdedkedafbaaGreatTreC
namespace Go.Proofs.YtjcjdedkedafbaaGreat
open Go.RowKit Go.Maps
set_option linter.unusedVariables false
attribute [local go_sem ↓] Go.wp_at_zero Go.wp_at_succ

theorem parT_right {p : Bs} (h : faultP p = 0) : parT p = parentP p := by unfold parT above parentP; rw [if_pos h]
theorem parC_right {p : Bs} (h : faultP p = 0) : parC p = if parentP p = [] then 4 else 0 := by
  unfold parC
  rw [if_pos h]
  unfold above
  rw [if_pos h]
  by_cases h0 : parentP p = []
  · rw [if_pos h0, if_pos (parentP_nil.1 h0)]
  · rw [if_neg h0, if_neg (fun e => h0 (parentP_nil.2 e))]
theorem lastT_right {p : Bs} (h : faultP p = 0) : lastT p = lastP p := by unfold lastT lastP; simp [h]
/-- The parent that is asked for: of '/' none. -/
def topQ (p : Bs) : Bs := if p = [47] then [] else p
theorem fault_top : faultP [47] ≠ 0 := by decide
theorem inP_right {p : Bs} {e : En} (hp : p = [47] ∨ faultP p = 0) (he : faultP e.path = 0) : inP p e = decide (parentP e.path = topQ p) := by
  unfold inP topQ
  rw [parC_right he, parT_right he]
  by_cases h0 : parentP e.path = []
  · rw [if_pos h0, if_pos rfl, h0]
    by_cases h1 : p = [47]
    · simp [h1]
    · have h2 : p ≠ [] := by
        rintro rfl
        rcases hp with hp | hp
        · exact h1 hp
        · exact faultP_nil hp
      simp [h1, Ne.symm h2]
  · rw [if_neg h0, if_neg (by decide)]
    by_cases h1 : p = [47]
    · have h3 := (parent_above he h0).1
      have h4 : parentP e.path ≠ [47] := fun e => fault_top (e ▸ h3)
      simp [h1, h0, h4]
    · simp [h1]
theorem filter_kids {es : List En} {p : Bs} (h : RightT es) (hp : p = [47] ∨ faultP p = 0) : es.filter (inP p) = kidsE es (topQ p) := by
  unfold kidsE
  apply List.filter_congr
  intro x hx
  exact inP_right hp (h.path hx)
theorem any_kids {es : List En} {p : Bs} (h : RightT es) (hp : faultP p = 0) : es.any (inP p) = !decide (kidsE es p = []) := by
  have e1 := filter_kids h (.inr hp)
  have e2 : topQ p = p := by unfold topQ; rw [if_neg (fun e : p = [47] => fault_top (e ▸ hp))]
  rw [e2] at e1
  rw [← e1]
  cases hq : es.any (inP p)
  · have : es.filter (inP p) = [] := by
      rw [List.filter_eq_nil_iff]
      exact fun x hx => List.any_eq_false.1 hq x hx
    simp [this]
  · obtain ⟨x, hx, hf⟩ := List.any_eq_true.1 hq
    have : es.filter (inP p) ≠ [] := fun e => by
      have := List.mem_filter.2 ⟨hx, hf⟩
      rw [e] at this; simp at this
    simp [this]
theorem any_find {es : List En} {p : Bs} : (es.any fun e => decide (e.path = p)) = (findE es p).isSome := by
  unfold findE
  cases hq : es.any fun e => decide (e.path = p)
  · rw [List.find?_eq_none.2 (fun x hx => List.any_eq_false.1 hq x hx)]
    rfl
  · obtain ⟨x, hx, hf⟩ := List.any_eq_true.1 hq
    cases hf2 : es.find? fun e => decide (e.path = p) with
    | none => exact absurd hf (List.find?_eq_none.1 hf2 x hx)
    | some y => rfl

/-- What the program's listFault answers. -/
def listC (es : List En) (p : Bs) : Int :=
  if p = [47] then treFaultP es else if statC es p = 0 then (match findE es p with | some e => if e.kind = 2 then 0 else 9 | none => 0) else statC es p
theorem statL_one {es : List En} {p : Bs} (h : statC es p = 0) : ∃ e, findE es p = some e ∧ statL es p = [e] := by
  unfold statC at h
  by_cases h0 : askT es p = 0
  · rw [if_pos h0] at h
    cases hf : findE es p with
    | none => rw [hf] at h; simp at h
    | some e =>
      refine ⟨e, rfl, ?_⟩
      have hz : statC es p = 0 := by rw [statC, if_pos h0, hf]; rfl
      rw [statL, if_pos hz, hf]
      rfl
  · rw [if_neg h0] at h; exact absurd h h0
theorem stat_tree {es : List En} {p : Bs} (h : statC es p = 0) : RightT es ∧ faultP p = 0 := by
  unfold statC at h
  by_cases h0 : askT es p = 0
  · unfold askT at h0
    by_cases h1 : treFaultP es = 0
    · rw [if_pos h1] at h0
      exact ⟨rightT_P.1 h1, h0⟩
    · rw [if_neg h1] at h0; exact absurd h0 h1
  · rw [if_neg h0] at h; exact absurd h h0
theorem list_tree {es : List En} {p : Bs} (h : listC es p = 0) : RightT es ∧ (p = [47] ∨ faultP p = 0) := by
  unfold listC at h
  by_cases h0 : p = [47]
  · rw [if_pos h0] at h
    exact ⟨rightT_P.1 h, .inl h0⟩
  · rw [if_neg h0] at h
    by_cases h1 : statC es p = 0
    · exact ⟨(stat_tree h1).1, .inr (stat_tree h1).2⟩
    · rw [if_neg h1] at h; exact absurd h h1


def listL (es : List En) (p : Bs) : List Bs := if listC es p = 0 then namesE es (topQ p) else []

theorem remove_cases {es : List En} {p : Bs} (h : RightT es) (hp : faultP p = 0) : removeC es p = if (es.any fun e => decide (e.path = p)) then (if es.any (inP p) then 1 else 0) else 4 := by
  unfold removeC
  rw [any_find, any_kids h hp]
  cases findE es p with
  | none => simp
  | some e => by_cases hk : kidsE es p = [] <;> simp [hk]

def remRep (es : List En) (p : Bs) : Int := if askT es p = 0 then removeC es p else 0
def remList (es : List En) (p : Bs) : List En := if askT es p = 0 then removeL es p else []
theorem ask_tree {es : List En} {p : Bs} (h : askT es p = 0) : RightT es ∧ faultP p = 0 := by
  unfold askT at h
  by_cases h1 : treFaultP es = 0
  · rw [if_pos h1] at h
    exact ⟨rightT_P.1 h1, h⟩
  · rw [if_neg h1] at h; exact absurd h h1
end Go.Proofs.YtjcjdedkedafbaaGreat
