/-
  The program's readManifest where there is a digest to read: a loop by goto.
-/
import Derived.Test.YtcknabinmbknaaaGreatDoorRdM
namespace Go.Proofs.YtcknabinmbknaaaGreatDoor
open Go.RowKit
set_option linter.unusedVariables false
set_option maxRecDepth 100000

/-- What stands at the label: done digests in a row of its own, words that are left. -/
structure AtL (w W : World) (n : Bs) (r0 ws : List Bs) (done : List Int) (av : Option Addr) (cv : Nat) : Prop where
  x : Box W w.heap.size (.string ⟨#[]⟩) (.slice none 0 0)
  m : Box W (w.heap.size + 1) (.string (str n)) (.slice av done.length cv)
  c : Box W (w.heap.size + 1 + 1) (.string (str (joinC 32 ws))) (.bool true)
  own : W.ownsRow (w.heap.size + 3) 2 1 (.slice av done.length cv) done.length (done.map (Value.int .i64))
  below : Below w.heap.size w W
  size : w.heap.size + 3 ≤ W.heap.size
  cut : cutC 32 (joinC 32 ws) = ws
  len : (joinC 32 ws).length ≤ 2097152
  some : ws ≠ []
  num : done.length + ws.length ≤ 2097153
  eq : r0.mapM hexW = (ws.mapM hexW).map (done ++ ·)
theorem news_int (w : World) (d : Int) (t : TypeId) : ∀ j u, [Value.int .i64 d][j]? = some u → (w.alloc (.cells #[.int .i64 d] t)).cell? ((⟨w.heap.size, 0, none⟩ : Addr).add j) = some u := by
  intro j u hj
  rw [addr_add]
  match j, hj with
  | 0, hj => simp at hj; subst hj; simp
def leftM (C : Nat) (w : World) : Nat := match w.cell? ⟨C, 0, none⟩ with | some (.string s) => s.size | _ => 0

end Go.Proofs.YtcknabinmbknaaaGreatDoor
