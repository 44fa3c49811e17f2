/-
  The model's SameLayers.
-/
import Derived.Test.YtlbccbikepkfiaaGreatDoorJ2
namespace Go.Proofs.YtlbccbikepkfiaaGreatDoor
open Go.RowKit Go.Maps
set_option linter.unusedVariables false

theorem En.same {e f : En} (h0 : e.path = f.path) (h1 : e.kind = f.kind) (h2 : e.size = f.size) (h3 : e.chunks = f.chunks) : e = f := by
  cases e; cases f; simp_all
theorem ne_at {es fs : List En} {j : Nat} {e f : En} (he : es[j]? = some e) (hf : fs[j]? = some f) (h : e ≠ f) : decide (es = fs) = false := by
  apply decide_eq_false
  intro e1
  rw [e1, hf] at he
  exact h (Option.some.inj he).symm
theorem take_both {α : Type} {es fs : List α} {j : Nat} {e f : α} (he : es[j]? = some e) (hf : fs[j]? = some f) (h : es.take j = fs.take j) (hx : e = f) : es.take (j + 1) = fs.take (j + 1) := by
  rw [take_snoc_at he, take_snoc_at hf, h, hx]
theorem take_whole {α : Type} {es fs : List α} {j : Nat} (h : es.take j = fs.take j) (h1 : es.length ≤ j) (h2 : fs.length ≤ j) : es = fs := by
  rwa [List.take_of_length_le h1, List.take_of_length_le h2] at h
theorem getD_at {zs : List Int} {k : Nat} (h : k < zs.length) : zs[k]? = some (zs.getD k 0) := by rw [List.getD_eq_getElem?_getD, List.getElem?_eq_getElem h]; rfl



end Go.Proofs.YtlbccbikepkfiaaGreatDoor
