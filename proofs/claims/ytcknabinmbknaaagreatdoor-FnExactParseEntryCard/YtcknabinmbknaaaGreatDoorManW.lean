/-
  How long texts of manifests are. Nothing of a program.
-/
import Derived.Test.YtcknabinmbknaaaGreatDoorManL
namespace Go.Proofs.YtcknabinmbknaaaGreatDoor
set_option linter.unusedVariables false

theorem packText_bad {n : Bs} {ds : List Int} (h : manFault n ds ≠ 0) : packText n ds = [] := by simp [packText, h]
theorem packText_good {n : Bs} {ds : List Int} (h : manFault n ds = 0) : packText n ds = imageB n ds := by simp [packText, h]

theorem joinC_bound {m : UInt8} {K : Nat} : ∀ (ps : List Bs), (∀ p ∈ ps, p.length ≤ K) → (joinC m ps).length ≤ ps.length * (K + 1)
  | [], _ => by simp [joinC]
  | [p], h => by have := h p (by simp); simp [joinC]; omega
  | p :: q :: r, h => by
    have h1 := h p (by simp)
    have h2 := joinC_bound (m := m) (q :: r) (fun x hx => h x (by simp at hx ⊢; exact .inr hx))
    have e : (joinC m (p :: q :: r)).length = p.length + ((joinC m (q :: r)).length + 1) := by simp [joinC]
    rw [e, List.length_cons, Nat.succ_mul]
    omega
theorem wordsM_bound {n : Bs} {ds : List Int} (h : FitM n ds) : (joinC 32 (wordsM n ds)).length ≤ 45 := by
  have h1 := joinC_bound (m := 32) (K := 8) (wordsM n ds) (fun p hp => by
    simp only [wordsM, List.mem_cons, List.mem_map] at hp
    rcases hp with rfl | rfl | ⟨z, -, rfl⟩
    · decide
    · have := h.len; omega
    · exact Nat.le_of_eq (hexB_length z))
  have h2 : (wordsM n ds).length = 2 + ds.length := by simp [wordsM]; omega
  have := h.many
  rw [h2] at h1
  omega
end Go.Proofs.YtcknabinmbknaaaGreatDoor
