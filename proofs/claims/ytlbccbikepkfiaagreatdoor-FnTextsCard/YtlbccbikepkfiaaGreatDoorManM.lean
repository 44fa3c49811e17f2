/-
  The model's l5Manifest, l5Image and PackManifest.
-/
import Derived.Test.YtlbccbikepkfiaaGreatDoorJ1
namespace Go.Proofs.YtlbccbikepkfiaaGreatDoor
open Go.RowKit
set_option linter.unusedVariables false
set_option maxRecDepth 100000

theorem joinC_snoc (m : UInt8) (q : Bs) : ∀ {ps : List Bs}, ps ≠ [] → joinC m (ps ++ [q]) = joinC m ps ++ m :: q
  | [], h => absurd rfl h
  | [p], _ => rfl
  | p :: r :: s, _ => by
    have ih := joinC_snoc m q (ps := r :: s) (by simp)
    show p ++ m :: joinC m ((r :: s) ++ [q]) = _
    rw [ih]
    simp [joinC]
theorem wordsM_snoc (n : Bs) (ds : List Int) (d : Int) : wordsM n (ds ++ [d]) = wordsM n ds ++ [hexB d] := by simp [wordsM]

theorem l1DigestM_any (n : Int) (w : World) : Calls Tryz.prog 84 #[.int .i64 n] w fun e w' => e = .returned (.bool (isDig n)) ∧ w' = w := by
  by_cases h : 0 ≤ n ∧ n ≤ 4294967295
  · have e : isDig n = true := by simp [isDig, h]
    rw [e]; exact specl1Digest_yes n w h.1 h.2
  · have e : isDig n = false := by simp [isDig]; omega
    rw [e]; exact specl1Digest_no n w (by omega)



end Go.Proofs.YtlbccbikepkfiaaGreatDoor
