/-
  The program's readManifest: it returns what it has read, or panics.
-/
import Derived.Test.YtcknabinmbknaaaGreatDoorRdP
import Derived.Test.YtcknabinmbknaaaGreatDoorLayN
import Derived.WalkMore
import Derived.ScopeJumps
namespace Go.Proofs.YtcknabinmbknaaaGreatDoor
open Go.RowKit
set_option linter.unusedVariables false
set_option maxRecDepth 100000


theorem trim_len (t : Bs) : (trimL t).length ≤ t.length := by unfold trimL; split <;> simp
theorem cloneM (s : ByteArray) (w : World) (hl : s.size ≤ 281474976710656) :
    Calls Tryz.prog 78 #[.string s] w fun e w' => e = .returned (.string s) ∧ Below w.heap.size w w' := by
  have H := hide (fun w => Any.stringslite_Clone Tryz.cloneA s w hl)
  go_enter Tryz.func78, Tryz.ntmps78
  go_wp2_with fail
  refine (H.out _).mono ?_
  rintro e w1 ⟨rfl, hb1⟩
  go_wp2_with fail
  go_ret
  exact ⟨rfl, hb1⟩

theorem boxOne {w : World} {B : Nat} {u v : Value} (h : Box w B u v) (u' : Value) : Box (w.setCell ⟨B, 0, none⟩ u') B u' v := by
  obtain ⟨⟨m0, m1⟩, m2, m3⟩ := h
  refine ⟨⟨?_, ?_⟩, ?_, ?_⟩
  · exact cell_set_same m0
  · rw [cell_set_other (by simp)]; exact m1
  · rw [World.frozen?_setCell]; exact m2
  · rw [World.frozen?_setCell]; exact m3
theorem boxSnd {w : World} {B : Nat} {u v : Value} (h : Box w B u v) (v' : Value) : Box (w.setCell ⟨B, 1, none⟩ v') B u v' := by
  obtain ⟨⟨m0, m1⟩, m2, m3⟩ := h
  refine ⟨⟨?_, ?_⟩, ?_, ?_⟩
  · rw [cell_set_other (by simp)]; exact m0
  · exact cell_set_same m1
  · rw [World.frozen?_setCell]; exact m2
  · rw [World.frozen?_setCell]; exact m3
theorem readP_one {t a : Bs} (h : cutC 32 (trimL t) = [a]) : readP t = none := by unfold readP; rw [h]
theorem readP_two {t a n : Bs} (h : cutC 32 (trimL t) = [a, n]) : readP t = none := by unfold readP; rw [h]
theorem readP_more {t a n d : Bs} {r : List Bs} (h : cutC 32 (trimL t) = a :: n :: d :: r) : readP t = ((d :: r).mapM hexW).map fun ds => (n, ds) := by unfold readP; rw [h]


end Go.Proofs.YtcknabinmbknaaaGreatDoor
