/-
  The program's list of entries made of a list of items.
-/
import Derived.Test.YtlbccbikepkfiaaGreatDoorIteC
namespace Go.Proofs.YtlbccbikepkfiaaGreatDoor
open Go.RowKit Go.Maps
set_option linter.unusedVariables false
attribute [local go_sem ↓] Go.wp_at_zero Go.wp_at_succ

theorem RdI.fresh {w : World} {e : En} {x : Option Addr} {c : Nat} {t : TypeId} (h : Reads .i64 w x e.chunks) : RdI (w.alloc (.cells #[.int .i64 e.size, .slice x e.chunks.length c, .string (str e.path), .int .i64 e.kind] t)) (some ⟨w.heap.size, 0, none⟩) [e] := by
  intro _
  obtain ⟨f0, f1, f2, f3⟩ := Four.new w (.int .i64 e.size) (.slice x e.chunks.length c) (.string (str e.path)) (.int .i64 e.kind) t
  refine ⟨w.heap.size, 0, fun _ => x, fun _ => c, rfl, by simp, fun i y hy => ?_⟩
  have hi : i = 0 := by
    have := (List.getElem?_eq_some_iff.1 hy).1
    simp at this
    exact this
  subst hi
  simp only [List.getElem?_cons_zero, Option.some.injEq] at hy
  subst hy
  simp only [Nat.zero_mul, Nat.add_zero, Nat.zero_add]
  exact ⟨f0, f1, f2, f3, h.below (below_alloc _ _)⟩


end Go.Proofs.YtlbccbikepkfiaaGreatDoor
