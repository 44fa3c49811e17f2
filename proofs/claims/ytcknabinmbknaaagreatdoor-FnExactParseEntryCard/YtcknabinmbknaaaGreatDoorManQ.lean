/-
  The program's PackManifest.
-/
import Derived.Test.YtcknabinmbknaaaGreatDoorManP
import Derived.Test.YtcknabinmbknaaaGreatDoorManW
import Derived.Test.YtcknabinmbknaaaGreatDoorJ1
namespace Go.Proofs.YtcknabinmbknaaaGreatDoor
open Go.RowKit
set_option linter.unusedVariables false
set_option maxRecDepth 100000

theorem joinMark_any (m : UInt8) (a : Option Addr) (c n : Nat) (ps : List Bs) (w : World) (h : ReadsS w a ps) (hne : ps ≠ []) (hn : n = ps.length) (hc : n ≤ c) (hs : ps.length ≤ 1048576) (hl : (joinC m ps).length ≤ 140737488355328) :
    Calls Tryz.prog 40 #[.slice a n c, .string ⟨#[m]⟩] w fun e w' => e = .returned (.string (str (joinC m ps))) ∧ Below w.heap.size w w' := by
  obtain ⟨b, off, rfl, hb, hcell⟩ := h hne
  have mapstr : (ps.map str).map (fun x => x.data.toList) = ps := by
    rw [List.map_map]
    conv => rhs; rw [← List.map_id ps]
    apply List.map_congr_left
    intro p _
    exact str_data p
  have := Any.strings_Join Tryz.joinA Tryz.joinX b off c (ps.map str) ⟨#[m]⟩ w
    (fun j x hx => by
      rw [List.getElem?_map] at hx
      cases e : ps[j]? with
      | none => rw [e] at hx; simp at hx
      | some p =>
        rw [e] at hx
        simp at hx
        obtain ⟨hj, _⟩ := List.getElem?_eq_some_iff.1 e
        rw [hcell j hj, ← hx]
        simp [List.getD_eq_getElem?_getD, e])
    hb (by simp; omega) (by simp; omega)
    (by rw [mapstr]; show (Lib.join ps [m]).length ≤ _; rw [joinC_lib]; omega)
  rw [mapstr, List.length_map, ← hn] at this
  have e : Lib.join ps [m] = joinC m ps := joinC_lib m ps
  rw [← e]
  exact this

theorem own_full {base n : Nat} {e : TypeId} (w : World) (cur : Array Value) (hb : base ≤ w.heap.size) (hm : n ≤ maxLen) (hs : cur.size = n) :
    (w.alloc (.cells cur e)).ownsRow base e 1 (.slice (some ⟨w.heap.size, 0, none⟩) n n) n cur.toList :=
  ⟨by simp [hs], .inr ⟨w.heap.size, n, cur, rfl, hb, heap_alloc_new w _, Nat.le_refl _, hm, by omega, by rw [Nat.mul_one, ← hs, ← Array.length_toList, List.take_length]⟩⟩
theorem news_strs {w : World} {b off : Nat} {ps : List Bs} (h : ∀ i, i < ps.length → w.cell? ⟨b, off + i, none⟩ = some (.string (str (ps.getD i [])))) : ∀ j u, (ps.map vS)[j]? = some u → w.cell? ((⟨b, off, none⟩ : Addr).add j) = some u := by
  intro j u hj
  rw [addr_add]
  rw [List.getElem?_map] at hj
  cases e : ps[j]? with
  | none => rw [e] at hj; simp at hj
  | some p =>
    rw [e] at hj
    simp at hj
    obtain ⟨hl, _⟩ := List.getElem?_eq_some_iff.1 e
    rw [h j hl, ← hj]
    simp [List.getD_eq_getElem?_getD, e, vS]

end Go.Proofs.YtcknabinmbknaaaGreatDoor
