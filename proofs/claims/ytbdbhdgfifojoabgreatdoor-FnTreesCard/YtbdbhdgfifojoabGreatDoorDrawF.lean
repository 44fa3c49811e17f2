/-
  The model's draws of a file's entry; what a file's entry is.
-/
import Derived.Test.YtbdbhdgfifojoabGreatDoorJ1
import Derived.Test.YtbdbhdgfifojoabGreatDoorEntJ
namespace Go.Proofs.YtbdbhdgfifojoabGreatDoor
open Go.RowKit Go.Maps
set_option linter.unusedVariables false
attribute [local go_sem ↓] Go.wp_at_zero Go.wp_at_succ


theorem fileE_right {p : Bs} {zs : List Int} (hp : faultP p = 0) (hl : zs.length ≤ 24) : entFault (fileE p zs) = 0 := by
  have h1 : formE (fileE p zs) = true := decide_eq_true ⟨by simp [fileE], .inl rfl⟩
  have h2 : sizeE (fileE p zs) = true := decide_eq_true (by simp [fileE]; omega)
  have h3 : manyE (fileE p zs) = true := decide_eq_true (by show ((digs zs (cut zs).length).length : Int) = ((zs.length : Int) + 7) / 8; rw [digs_len, cut_length]; omega)
  rw [entFault_digs hp h1 h2 h3, if_pos]
  rw [List.all_eq_true]
  intro z hz
  simp only [fileE, digs, List.mem_map] at hz
  obtain ⟨i, _, rfl⟩ := hz
  exact decide_eq_true (digest_range _)
theorem row_one (w : World) (z : Int) : (w.alloc (.cells #[.int .u8 z] 5)).ownsRow w.heap.size 5 1 (.slice (some ⟨w.heap.size, 0, none⟩) 1 1) 1 ([z].map (Value.int .u8)) :=
  ⟨rfl, .inr ⟨w.heap.size, 1, #[.int .u8 z], rfl, Nat.le_refl _, heap_alloc_new w _, Nat.le_refl _, by decide, rfl, rfl⟩⟩

end Go.Proofs.YtbdbhdgfifojoabGreatDoor
