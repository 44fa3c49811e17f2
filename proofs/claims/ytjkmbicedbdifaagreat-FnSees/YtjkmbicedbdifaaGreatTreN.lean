/-
  The model's trees: the names in a directory, replies, what is written, made and removed; ListTree.
-/
import Derived.Test.YtjkmbicedbdifaaGreatJ3
import Derived.Test.YtjkmbicedbdifaaGreatJ2
namespace Go.Proofs.YtjkmbicedbdifaaGreat
open Go.RowKit Go.Maps
set_option linter.unusedVariables false
attribute [local go_sem ↓] Go.wp_at_zero Go.wp_at_succ

theorem RightT.small {es : List En} (h : RightT es) : SmallE es := fun e he => by
  obtain ⟨ns, hN, hpe, _, _⟩ := faultP_zero (h.path he)
  have h1 := join_len ns hN.2.2.1
  have h2 := hN.2.2.2
  have h3 := entFault_chunks (h.ent e he)
  rw [hpe]
  omega
/-- The last name of a path. -/
def lastP (p : Bs) : Bs := lastN (cutB p.tail)
/-- The names of what has a path as its parent. -/
def namesE (es : List En) (q : Bs) : List Bs := (kidsE es q).map fun e => lastP e.path
theorem namesE_in {es : List En} {q : Bs} {k : Nat} {e : En} (he : es[k]? = some e) (h : parentP e.path = q) : namesE (es.take (k + 1)) q = namesE (es.take k) q ++ [lastP e.path] := by
  unfold namesE kidsE
  rw [take_snoc_at he, List.filter_append]
  simp [h]
theorem namesE_out {es : List En} {q : Bs} {k : Nat} {e : En} (he : es[k]? = some e) (h : parentP e.path ≠ q) : namesE (es.take (k + 1)) q = namesE (es.take k) q := by
  unfold namesE kidsE
  rw [take_snoc_at he, List.filter_append]
  simp [h]
theorem namesE_len (es : List En) (q : Bs) : (namesE es q).length ≤ es.length := by
  unfold namesE kidsE
  rw [List.length_map]
  exact List.length_filter_le _ _


end Go.Proofs.YtjkmbicedbdifaaGreat
