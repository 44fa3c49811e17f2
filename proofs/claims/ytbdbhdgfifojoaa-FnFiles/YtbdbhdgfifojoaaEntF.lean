/-
  The model's fault of an entry.
-/
import Derived.Test.YtbdbhdgfifojoaaEnts
import Derived.Deep.RegionHeld3
import Derived.Handy
namespace Go.Proofs.Ytbdbhdgfifojoaa
open Go.RowKit
set_option linter.unusedVariables false

/-- Four cells of a block, that may be written. -/
def Four (w : World) (b : Nat) (u0 u1 u2 u3 : Value) : Prop := w.cell? ⟨b, 0, none⟩ = some u0 ∧ w.cell? ⟨b, 1, none⟩ = some u1 ∧ w.cell? ⟨b, 2, none⟩ = some u2 ∧ w.cell? ⟨b, 3, none⟩ = some u3
theorem Four.new (w : World) (u0 u1 u2 u3 : Value) (t : TypeId) : Four (w.alloc (.cells #[u0, u1, u2, u3] t)) w.heap.size u0 u1 u2 u3 := ⟨by simp, by simp, by simp, by simp⟩
theorem Four.lt {w : World} {b : Nat} {u0 u1 u2 u3 : Value} (h : Four w b u0 u1 u2 u3) : b < w.heap.size := World.block_lt_of_cell? w ⟨b, 0, none⟩ h.1
theorem Four.below {w w' : World} {b : Nat} {u0 u1 u2 u3 : Value} (h : Four w b u0 u1 u2 u3) (hk : Below w.heap.size w w') : Four w' b u0 u1 u2 u3 :=
  ⟨(hk.cell (p := ⟨b, 0, none⟩) h.lt).trans h.1, (hk.cell (p := ⟨b, 1, none⟩) h.lt).trans h.2.1, (hk.cell (p := ⟨b, 2, none⟩) h.lt).trans h.2.2.1, (hk.cell (p := ⟨b, 3, none⟩) h.lt).trans h.2.2.2⟩


end Go.Proofs.Ytbdbhdgfifojoaa
