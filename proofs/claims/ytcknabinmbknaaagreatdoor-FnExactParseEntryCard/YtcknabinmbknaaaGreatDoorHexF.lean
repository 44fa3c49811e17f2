/-
  Facts on texts of numbers: a number's text is read back.
-/
import Derived.Test.YtcknabinmbknaaaGreatDoorParse
namespace Go.Proofs.YtcknabinmbknaaaGreatDoor
open Go.RowKit
set_option linter.unusedVariables false
set_option maxRecDepth 100000

theorem hexText_size (n : Int) : (hexText n).size = 8 := by unfold hexText; rw [strOfNums_size]; simp [hexList]
theorem hv_digit : ∀ d : Fin 16, hv ((UInt8.ofNat (hexL.getD d.val 0).toNat).toNat : Int) = some (d.val : Int) := by decide
theorem hv_dg (d : Int) (h0 : 0 ≤ d) (h1 : d < 16) : hv ((UInt8.ofNat (hexL.getD d.toNat 0).toNat).toNat : Int) = some d := by
  have := hv_digit ⟨d.toNat, by omega⟩
  simp only at this
  rw [this]
  congr 1
  omega
theorem pv_hex (n : Int) (h0 : 0 ≤ n) (h1 : n ≤ 4294967295) : pv (hexText n).data.toList = some n := by
  have e : (hexText n).data.toList = (hexList n).map fun z => UInt8.ofNat z.toNat := rfl
  have e2 : hexList n = [hexL.getD (dg n 0).toNat 0, hexL.getD (dg n 1).toNat 0, hexL.getD (dg n 2).toNat 0, hexL.getD (dg n 3).toNat 0, hexL.getD (dg n 4).toNat 0, hexL.getD (dg n 5).toNat 0, hexL.getD (dg n 6).toNat 0, hexL.getD (dg n 7).toNat 0] := rfl
  rw [e, e2]
  simp only [List.map_cons, List.map_nil, pv, List.foldl_cons, List.foldl_nil]
  have k0 := dg0 n h0 h1
  have k1 := dg1 n h0 h1
  have k2 := dg2 n h0 h1
  have k3 := dg3 n h0 h1
  have k4 := dg4 n h0 h1
  have k5 := dg5 n h0 h1
  have k6 := dg6 n h0 h1
  have k7 := dg7 n h0 h1
  simp only [pvStep, Option.bind_some, hv_dg (dg n 0) (by omega) (by omega), hv_dg (dg n 1) (by omega) (by omega), hv_dg (dg n 2) (by omega) (by omega), hv_dg (dg n 3) (by omega) (by omega), hv_dg (dg n 4) (by omega) (by omega), hv_dg (dg n 5) (by omega) (by omega), hv_dg (dg n 6) (by omega) (by omega), hv_dg (dg n 7) (by omega) (by omega), Option.map_some]
  congr 1
  omega
theorem pvValue_hex (n : Int) (h0 : 0 ≤ n) (h1 : n ≤ 4294967295) : pvValue (hexText n) = n := by
  unfold pvValue
  rw [if_pos (hexText_size n), pv_hex n h0 h1]
  rfl
end Go.Proofs.YtcknabinmbknaaaGreatDoor
