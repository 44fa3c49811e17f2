/-
  Contracts of the laws' helpers on byte slices: toByteS, eqByteS, markByteS, heldByteS.
-/
import Derived.Test.YtcnoabkpilmanaaMem
namespace Go.Proofs.Ytcnoabkpilmanaa
open Go.RowKit
set_option linter.unusedVariables false

theorem Try.infoU8 : (Try.prog.info? 5).map (fun i => (i.zero, i.size, i.bytes)) = some (some (.int .u8 0), 1, 1) := by kernel_rfl


/-- One store of a walk that writes a row cell by cell. -/
theorem own_step {w : World} {b off j n : Nat} {k : IntKind} {f g : Nat → Int} {v : Int} (h : ∀ t, t < n → w.cell? ⟨b, off + t, none⟩ = some (.int k (if t < j then f t else g t)) ∧ w.frozen? ⟨b, off + t, none⟩ = false) (hj : j < n) (hv : v = f j) :
    ∀ t, t < n → (w.setCell ⟨b, off + j, none⟩ (.int k v)).cell? ⟨b, off + t, none⟩ = some (.int k (if t < j + 1 then f t else g t)) ∧ (w.setCell ⟨b, off + j, none⟩ (.int k v)).frozen? ⟨b, off + t, none⟩ = false := by
  intro t ht
  obtain ⟨h1, h2⟩ := h t ht
  refine ⟨?_, by rw [World.frozen?_setCell]; exact h2⟩
  by_cases e : t = j
  · subst e
    rw [cell_set_same (h t hj).1, if_pos (by omega), hv]
  · rw [cell_set_other (fun c => e (Nat.add_left_cancel (show off + j = off + t from congrArg Addr.off c)).symm), h1]
    by_cases e2 : t < j
    · rw [if_pos e2, if_pos (by omega)]
    · rw [if_neg e2, if_neg (by omega)]

end Go.Proofs.Ytcnoabkpilmanaa
