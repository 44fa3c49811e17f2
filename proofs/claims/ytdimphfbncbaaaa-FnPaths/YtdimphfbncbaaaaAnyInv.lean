/-
  A region that draws its order, by what holds whichever operations are done: one proof an operation, none an order.
-/
import Derived.Test.YtdimphfbncbaaaaMem
import Derived.Orders
namespace Go.Proofs.Ytdimphfbncbaaaa
open Go.RowKit
set_option linter.unusedVariables false

/-- How many operations are not done. -/
def leftN (n : Nat) (l : Array Bool) : Nat := ((List.range n).filter fun i => !l.getD i true).length

theorem filter_less {p q : Nat → Bool} (h : ∀ j, q j = true → p j = true) {i : Nat} (hp : p i = true) (hq : q i = false) : ∀ (L : List Nat), i ∈ L → (L.filter q).length < (L.filter p).length
  | [], hi => by simp at hi
  | x :: L, hi => by
    have le : ∀ M : List Nat, (M.filter q).length ≤ (M.filter p).length := fun M => by
      induction M with
      | nil => simp
      | cons y M ih =>
        by_cases h1 : q y = true
        · simp [h1, h y h1]; exact ih
        · by_cases h2 : p y = true
          · simp [h1, h2]; omega
          · simp [h1, h2]; exact ih
    by_cases hx : x = i
    · subst hx
      have := le L
      simp [hp, hq]; omega
    · have hm : i ∈ L := by
        rcases List.mem_cons.1 hi with h1 | h1
        · exact absurd h1.symm hx
        · exact h1
      have ih := filter_less h hp hq L hm
      by_cases h1 : q x = true
      · simp [h1, h x h1]; omega
      · by_cases h2 : p x = true
        · simp [h1, h2]; omega
        · simp [h1, h2]; exact ih

theorem wpAny_inv {P : Program} {md : Region.Mode} {ops : Array Oper} {Q : Exit → Act → World → Prop} (Inv : Array Bool → Act → World → Prop)
    (hstep : ∀ l a w i, Inv l a w → i ∈ Region.ready md ops l → wpOp P ops Q i (Inv (l.setIfInBounds i true)) a w)
    (hend : ∀ l a w, Inv l a w → Region.ready md ops l = [] → Q .normal a w) :
    ∀ fuel l a w, Inv l a w → leftN ops.size l ≤ fuel → wpAny P md ops Q fuel l a w := by
  intro fuel
  induction fuel with
  | zero =>
    intro l a w h hl
    have hr : Region.ready md ops l = [] := by
      rw [List.eq_nil_iff_forall_not_mem]
      intro i hi
      obtain ⟨h0, o, ho, _⟩ := mem_ready.1 hi
      have hlt : i < ops.size := (Array.getElem?_eq_some_iff.1 ho).1
      have : i ∈ (List.range ops.size).filter fun i => !l.getD i true := by
        rw [List.mem_filter, List.mem_range]; exact ⟨hlt, by rw [h0]; rfl⟩
      have := List.length_pos_of_mem this
      unfold leftN at hl
      omega
    exact ⟨hr, hend l a w h hr⟩
  | succ fuel ih =>
    intro l a w h hl
    refine ⟨fun hr => hend l a w h hr, fun i hi => ?_⟩
    refine wpOp_mono (fun a' w' h' => ih _ a' w' h' ?_) (hstep l a w i h hi)
    obtain ⟨h0, o, ho, _⟩ := mem_ready.1 hi
    have hlt : i < ops.size := (Array.getElem?_eq_some_iff.1 ho).1
    have key : leftN ops.size (l.setIfInBounds i true) < leftN ops.size l := by
      refine filter_less (i := i) (fun j hj => ?_) (by rw [h0]; rfl) ?_ _ (List.mem_range.2 hlt)
      · by_cases e : i = j
        · subst e; rw [h0]; rfl
        · rw [getD_set_ne true e] at hj; exact hj
      · by_cases hs : i < l.size
        · simp [Array.getD_eq_getD_getElem?, hs]
        · simp [Array.getD_eq_getD_getElem?, hs] at h0
    omega

theorem wpOp_of {P : Program} {ops : Array Oper} {Q : Exit → Act → World → Prop} {i : Nat} {K : Act → World → Prop} {a : Act} {w : World} {o : Oper} (ho : ops[i]? = some o) (hg : o.guard = none)
    (h : ∀ K' : Act → World → Prop, (∀ a w, K a w → K' a w) → o.wp P a w K' Q) : wpOp P ops Q i K a w := by
  unfold wpOp
  rw [ho]
  simp only [Region.wanted, hg, if_true]
  exact .inl (h K fun _ _ h => h)

end Go.Proofs.Ytdimphfbncbaaaa
