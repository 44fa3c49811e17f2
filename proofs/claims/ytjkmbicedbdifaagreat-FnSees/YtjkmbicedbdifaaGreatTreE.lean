/-
  The model's trees: what is written, made and removed; ListTree and WriteTree.
-/
import Derived.Test.YtjkmbicedbdifaaGreatTreN
namespace Go.Proofs.YtjkmbicedbdifaaGreat
open Go.RowKit Go.Maps
set_option linter.unusedVariables false
attribute [local go_sem ↓] Go.wp_at_zero Go.wp_at_succ

theorem fit_file {p : Bs} {ds : List Int} (hp : faultP p = 0) (hl : ds.length ≤ 24) : entFault (fileE p ds) = 0 := by
  have h1 : formE (fileE p ds) = true := decide_eq_true ⟨by simp [fileE], .inl rfl⟩
  have h2 : sizeE (fileE p ds) = true := decide_eq_true (by simp [fileE]; omega)
  have h3 : manyE (fileE p ds) = true := decide_eq_true (by show ((digs ds (cut ds).length).length : Int) = ((ds.length : Int) + 7) / 8; rw [digs_len, cut_length]; omega)
  rw [entFault_digs hp h1 h2 h3, if_pos]
  rw [List.all_eq_true]
  intro z hz
  simp only [fileE, digs, List.mem_map] at hz
  obtain ⟨i, _, rfl⟩ := hz
  exact decide_eq_true (digest_range _)
theorem path_len {p : Bs} (h : faultP p = 0) : p.length ≤ 15 := by
  obtain ⟨ns, hN, hpe, _, _⟩ := faultP_zero h
  have h1 := join_len ns hN.2.2.1
  have h2 := hN.2.2.2
  rw [hpe]
  omega


theorem names_none {es : List En} {q : Bs} : (namesE es q).length = 0 ↔ kidsE es q = [] := by
  unfold namesE
  rw [List.length_map, List.length_eq_zero_iff]
end Go.Proofs.YtjkmbicedbdifaaGreat
