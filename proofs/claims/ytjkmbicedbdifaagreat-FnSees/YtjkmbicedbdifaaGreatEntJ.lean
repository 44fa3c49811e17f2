/-
  The model's FileEntry.
-/
import Derived.Test.YtjkmbicedbdifaaGreatJ2
namespace Go.Proofs.YtjkmbicedbdifaaGreat
open Go.RowKit Go.Maps
set_option linter.unusedVariables false

/-- What FileEntry answers. -/
def fileCode (p : Bs) (zs : List Int) : Int := if faultP p = 0 then (if 24 < zs.length then 2 else 0) else faultP p
def fileList (p : Bs) (zs : List Int) : List En := if fileCode p zs = 0 then [fileE p zs] else []

theorem GE.one {w w1 : World} {e : En} {av : Option Addr} {cv : Nat} (hb : Below w.heap.size w w1) (h : w1.ownsRow w.heap.size 2 1 (.slice av e.chunks.length cv) e.chunks.length (e.chunks.map (Value.int .i64))) :
    GE w.heap.size (w1.alloc (.cells #[.string (str e.path), .int .i64 e.kind, .int .i64 e.size, .slice av e.chunks.length cv] 40)).heap.size (w1.alloc (.cells #[.string (str e.path), .int .i64 e.kind, .int .i64 e.size, .slice av e.chunks.length cv] 40)) (.slice (some ⟨w1.heap.size, 0, none⟩) 1 1) [e] := by
  have hs := hb.size
  refine ⟨[⟨e, av, cv⟩], rfl, ?_, fun r hr => ?_, List.pairwise_singleton _ _, fun r hr g hg => ?_, fun b hb => ?_⟩
  · exact ⟨rfl, .inr ⟨w1.heap.size, 1, #[.string (str e.path), .int .i64 e.kind, .int .i64 e.size, .slice av e.chunks.length cv], rfl, hs, heap_alloc_new w1 _, Nat.le_refl _, by decide, rfl, rfl⟩⟩
  · simp only [List.mem_singleton] at hr
    subst hr
    exact ownsRow_below h (below_alloc _ _)
  · simp only [List.mem_singleton] at hr
    subst hr
    have := (h.lt g (block_own hg)).2
    simp
    omega
  · simp [Value.ownBlock] at hb
    subst hb
    simp


end Go.Proofs.YtjkmbicedbdifaaGreat
