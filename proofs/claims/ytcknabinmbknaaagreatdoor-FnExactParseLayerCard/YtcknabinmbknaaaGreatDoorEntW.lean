/-
  The model's Without and DropBelow.
-/
import Derived.Test.YtcknabinmbknaaaGreatDoorJ1
namespace Go.Proofs.YtcknabinmbknaaaGreatDoor
open Go.RowKit Go.Maps
set_option linter.unusedVariables false
attribute [local go_sem ↓] Go.wp_at_zero Go.wp_at_succ

/-- Is an entry dropped with a path? -/
def goesE (p : Bs) (also : Bool) (e : En) : Bool := belowB e.path p || (also && decide (e.path = p))
def restE (es : List En) (p : Bs) (also : Bool) : List En := es.filter fun e => !(goesE p also e)
theorem restE_take_in {es : List En} {p : Bs} {also : Bool} {k : Nat} {e : En} (he : es[k]? = some e) (h : goesE p also e = false) : restE (es.take (k + 1)) p also = restE (es.take k) p also ++ [e] := by
  rw [take_snoc_at he]; simp [restE, h]
theorem restE_take_out {es : List En} {p : Bs} {also : Bool} {k : Nat} {e : En} (he : es[k]? = some e) (h : goesE p also e = true) : restE (es.take (k + 1)) p also = restE (es.take k) p also := by
  rw [take_snoc_at he]; simp [restE, h]
theorem restE_len (es : List En) (p : Bs) (also : Bool) : (restE es p also).length ≤ es.length := List.length_filter_le _ _
theorem restE_small {es : List En} (h : SmallE es) (p : Bs) (also : Bool) : SmallE (restE es p also) := fun e he => h e (List.mem_filter.1 he).1
theorem SE.made (w : World) : SE w.heap.size (w.alloc (.cells #[] 39)) (.slice (some ⟨w.heap.size, 0, none⟩) 0 0) [] := (GE.made w).se

/-- v is a row of entries made since w0, whose chunks were read then. -/
def LE (w0 w : World) (v : Value) (es : List En) : Prop :=
  ∃ rs : List Rw, rs.map Rw.e = es ∧ w.ownsRow w0.heap.size 39 4 v es.length (rowR rs) ∧ ∀ r ∈ rs, Reads .i64 w0 r.a r.e.chunks
theorem LE.se {w0 w : World} {v : Value} {es : List En} (h : LE w0 w v es) (hb : Below w0.heap.size w0 w) : SE w0.heap.size w v es := by
  obtain ⟨rs, he, h1, h2⟩ := h
  exact ⟨rs, he, h1, fun r hr => (h2 r hr).below hb⟩
theorem LE.shape {w0 w : World} {v : Value} {es : List En} (h : LE w0 w v es) : ∃ a c, v = .slice a es.length c := by
  obtain ⟨rs, _, h1, _⟩ := h
  exact ownsRow_shape h1
theorem LE.made (w : World) : LE w (w.alloc (.cells #[] 39)) (.slice (some ⟨w.heap.size, 0, none⟩) 0 0) [] :=
  ⟨[], rfl, World.ownsRow_made w #[] 0 (Nat.le_refl _) (Nat.zero_le _) rfl, fun r hr => by simp at hr⟩
theorem LE.push {w0 w2 : World} {v' : Value} {es : List En} {rs : List Rw} {e : En} {a : Option Addr} {c m : Nat} (he : rs.map Rw.e = es) (hm : m = es.length)
    (h2 : ∀ r ∈ rs, Reads .i64 w0 r.a r.e.chunks) (hr : Reads .i64 w0 a e.chunks)
    (hv' : w2.ownsRow w0.heap.size 39 4 v' (m + 1) (rowR rs ++ cellsR ⟨e, a, c⟩)) : LE w0 w2 v' (es ++ [e]) := by
  subst hm
  refine ⟨rs ++ [⟨e, a, c⟩], by rw [List.map_append, he]; rfl, ?_, fun r hx => ?_⟩
  · rw [rowR_append, List.length_append]
    simpa [rowR] using hv'
  · rcases List.mem_append.1 hx with hx | hx
    · exact h2 r hx
    · simp only [List.mem_singleton] at hx
      subst hx
      exact hr


/-- What DropBelow answers. -/
def dropList (es : List En) (p : Bs) : List En := if askE es p = 0 then restE es p true else []

end Go.Proofs.YtcknabinmbknaaaGreatDoor
