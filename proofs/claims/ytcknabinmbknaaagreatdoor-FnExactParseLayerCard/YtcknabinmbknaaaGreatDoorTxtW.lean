/-
  What EntryText answers, and how long it is. Nothing of a program.
-/
import Derived.Test.YtcknabinmbknaaaGreatDoorJ2
namespace Go.Proofs.YtcknabinmbknaaaGreatDoor
set_option linter.unusedVariables false

def entText (e : En) : Bs := if entFault e = 0 then textE e else []
theorem entText_bad {e : En} (h : entFault e ≠ 0) : entText e = [] := by simp [entText, h]
theorem entText_good {e : En} (h : entFault e = 0) : entText e = textE e := by simp [entText, h]
theorem FitE.three {e : En} (h : FitE e) : e.chunks.length ≤ 3 := by have := h.size; have := h.many; omega
theorem FitE.plen {e : En} (h : FitE e) : e.path.length ≤ 15 := by
  obtain ⟨ns, hN, hp, -⟩ := faultP_zero h.path
  have := join_len ns hN.2.2.1
  have := hN.2.2.2
  rw [hp]; omega
theorem digB_len (n : Int) : (digB n).length ≤ 2 := by unfold digB; split <;> simp
theorem hexesB_len {cs : List Int} (h : cs.length ≤ 3) : (hexesB cs).length ≤ 27 := by
  unfold hexesB
  split
  · simp
  · have := joinC_bound (m := 44) (K := 8) (cs.map hexB) (fun p hp => by obtain ⟨z, -, rfl⟩ := List.mem_map.1 hp; exact Nat.le_of_eq (hexB_length z))
    rw [List.length_map] at this
    omega
theorem textE_file {e : En} (h : e.kind = 1) : textE e = [102, 32] ++ e.path ++ [32] ++ digB e.size ++ [32] ++ hexesB e.chunks := by
  simp [textE, h, joinC]
theorem textE_dir {e : En} (h : e.kind ≠ 1) : textE e = kindB e.kind ++ [32] ++ e.path := by
  simp [textE, h, joinC]
end Go.Proofs.YtcknabinmbknaaaGreatDoor
