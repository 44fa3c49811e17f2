/-
  The model's ListTree answers as the program's does.
-/
import Derived.Test.YtbdbhdgfifojoabGreatDoorTreD
import Derived.Test.YtbdbhdgfifojoabGreatDoorTreE
namespace Go.Proofs.YtbdbhdgfifojoabGreatDoor
open Go.RowKit Go.Maps
set_option linter.unusedVariables false
attribute [local go_sem ↓] Go.wp_at_zero Go.wp_at_succ

theorem listC_fault {es : List En} {p : Bs} (h : treFaultP es ≠ 0) : listC es p = treFaultP es := by
  unfold listC
  by_cases h0 : p = [47]
  · rw [if_pos h0]
  · have h1 : askT es p = treFaultP es := by rw [askT, if_neg h]
    have h2 : statC es p = treFaultP es := by rw [statC, h1, if_neg h]
    rw [if_neg h0, h2, if_neg h]
theorem listC_top {es : List En} (h : treFaultP es = 0) : listC es [47] = 0 := by rw [listC, if_pos rfl, h]
theorem statC_path {es : List En} {p : Bs} (h : treFaultP es = 0) (hp : faultP p ≠ 0) : statC es p = faultP p := by
  have h1 : askT es p = faultP p := by rw [askT, if_pos h]
  rw [statC, h1, if_neg hp]
theorem listC_path {es : List En} {p : Bs} (h : treFaultP es = 0) (h0 : p ≠ [47]) (hp : faultP p ≠ 0) : listC es p = faultP p := by
  rw [listC, if_neg h0, statC_path h hp, if_neg hp]
theorem statC_ok {es : List En} {p : Bs} (h : treFaultP es = 0) (hp : faultP p = 0) : statC es p = if (findE es p).isSome then 0 else 4 := by
  have h1 : askT es p = 0 := by rw [askT, if_pos h, hp]
  rw [statC, if_pos h1]
theorem listC_none {es : List En} {p : Bs} (h : treFaultP es = 0) (hp : faultP p = 0) (hf : findE es p = none) : listC es p = 4 := by
  have h1 := statC_ok h hp
  rw [hf] at h1
  have h2 : statC es p = 4 := h1
  rw [listC, if_neg (fun e : p = [47] => fault_top (e ▸ hp)), h2]
  rfl
theorem listC_some {es : List En} {p : Bs} {e : En} (h : treFaultP es = 0) (hp : faultP p = 0) (hf : findE es p = some e) : listC es p = if e.kind = 2 then 0 else 9 := by
  have h1 := statC_ok h hp
  rw [hf] at h1
  have h2 : statC es p = 0 := h1
  simp only [listC, h2, hf, if_true]
  rw [if_neg (fun e : p = [47] => fault_top (e ▸ hp))]
theorem listL_bad {es : List En} {p : Bs} (h : listC es p ≠ 0) : listL es p = [] := by rw [listL, if_neg h]


end Go.Proofs.YtbdbhdgfifojoabGreatDoor
