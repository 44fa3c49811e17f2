/-
  Rows of texts: what a slice of strings reads as, and one that is owned.
-/
import Derived.Test.YtcnoabkpilmanaaMem
import Derived.Test.YtcnoabkpilmanaaPathL
namespace Go.Proofs.Ytcnoabkpilmanaa
open Go.RowKit
set_option linter.unusedVariables false

theorem ret_str {a b : ByteArray} (h : a = b) : Ending.returned (.string a) = .returned (.string b) := by rw [h]

def vS (p : Bs) : Value := .string (str p)
/-- The list that v owns is of the texts ps. -/
def OwnS (B : Nat) (w : World) (v : Value) (ps : List Bs) : Prop := w.ownsRow B 9 1 v ps.length (ps.map vS)
/-- The slice at address a reads as the texts ps (an empty one: nothing is known of a). -/
def ReadsS (w : World) (a : Option Addr) (ps : List Bs) : Prop :=
  ps ≠ [] → ∃ b off, a = some ⟨b, off, none⟩ ∧ b < w.heap.size ∧ ∀ i, i < ps.length → w.cell? ⟨b, off + i, none⟩ = some (.string (str (ps.getD i [])))

theorem ReadsS.kept {S : Nat → Prop} {w w' : World} {a : Option Addr} {ps : List Bs} (h : ReadsS w a ps) (hk : Kept S w w') (hn : ps ≠ [] → ∀ x, a = some x → ¬ S x.block) : ReadsS w' a ps := by
  intro hz
  obtain ⟨b, off, rfl, hb, hc⟩ := h hz
  exact ⟨b, off, rfl, Nat.lt_of_lt_of_le hb hk.size, fun i hi => (hk.cell (p := ⟨b, off + i, none⟩) hb (hn hz ⟨b, off, none⟩ rfl)).trans (hc i hi)⟩
theorem ReadsS.below {w w' : World} {a : Option Addr} {ps : List Bs} (h : ReadsS w a ps) (hk : Below w.heap.size w w') : ReadsS w' a ps :=
  h.kept (S := fun _ => False) (Kept.of_below hk) (fun _ _ _ => id)
theorem ReadsS.drewN {w : World} {a : Option Addr} {ps : List Bs} (h : ReadsS w a ps) (n : Nat) : ReadsS (w.drewN n) a ps := h
theorem ReadsS.nil (w : World) (a : Option Addr) : ReadsS w a [] := fun h => absurd rfl h
theorem ReadsS.take {w : World} {a : Option Addr} {ps : List Bs} (h : ReadsS w a ps) (k : Nat) : ReadsS w a (ps.take k) := by
  intro hz
  have hp : ps ≠ [] := by rintro rfl; simp at hz
  obtain ⟨b, off, rfl, hb, hc⟩ := h hp
  refine ⟨b, off, rfl, hb, fun i hi => ?_⟩
  have hi' : i < k ∧ i < ps.length := by simpa [Nat.lt_min] using hi
  rw [hc i hi'.2]
  simp [List.getD_eq_getElem?_getD, hi'.1]

theorem ReadsS.at {w : World} {a : Option Addr} {ps : List Bs} (h : ReadsS w a ps) {k : Nat} (hk : k < ps.length) :
    ∃ b off p, a = some ⟨b, off, none⟩ ∧ b < w.heap.size ∧ ps[k]? = some p ∧ w.cell? ⟨b, off + k, none⟩ = some (.string (str p)) := by
  obtain ⟨b, off, e, hb, hc⟩ := h (by intro e; simp [e] at hk)
  refine ⟨b, off, ps[k], e, hb, by simp [hk], ?_⟩
  rw [hc k hk]
  simp [List.getD_eq_getElem?_getD, hk]

namespace OwnS
variable {B : Nat} {w w' : World} {v : Value} {ps : List Bs}
theorem nil (B : Nat) (w : World) : OwnS B w (.slice none 0 0) [] := World.ownsRow_nil _ _ _ _
theorem shape (h : OwnS B w v ps) : ∃ a c, v = .slice a ps.length c := ownsRow_shape h
theorem below (h : OwnS B w v ps) (hk : Below w.heap.size w w') : OwnS B w' v ps := ownsRow_below h hk
theorem kept {S : Nat → Prop} (h : OwnS B w v ps) (hk : Kept S w w') (hn : ∀ b, v.ownBlock = some b → ¬ S b) : OwnS B w' v ps := ownsRow_kept h hk hn
theorem mono {B' : Nat} (h : OwnS B w v ps) (hb : B' ≤ B) : OwnS B' w v ps := ownsRow_mono h hb
theorem cap {a : Option Addr} {n c : Nat} (h : OwnS B w (.slice a n c) ps) (hn : n = ps.length) : n ≤ c := by
  subst hn; exact ownsRow_cap h
theorem reads {a : Option Addr} {n c : Nat} (h : OwnS B w (.slice a n c) ps) : ReadsS w a ps := by
  intro hz
  have h0 : 0 < ps.length := List.length_pos_iff.2 hz
  rcases h.2 with ⟨h', hh⟩ | ⟨g, cap, cur, h', hb, hh, hnc, hcm, hcs, htake⟩
  · omega
  · have hl : n = ps.length ∧ a = some ⟨g, 0, none⟩ := by simp only [Value.slice.injEq] at h'; exact ⟨h'.2.1, h'.1⟩
    obtain ⟨rfl, rfl⟩ := hl
    refine ⟨g, 0, rfl, (h.lt g rfl).2, fun i hi => ?_⟩
    have := World.ownsRow.cellAt h i (by omega)
    rw [Nat.zero_add, this]
    simp [List.getD_eq_getElem?_getD, hi, vS]
/-- The same list without its last. -/
theorem dropLast {a : Option Addr} {n c : Nat} (h : OwnS B w (.slice a n c) ps) (hz : ps ≠ []) : OwnS B w (.slice a (n - 1) c) ps.dropLast := by
  have h0 : 0 < ps.length := List.length_pos_iff.2 hz
  rcases h.2 with ⟨h', hh⟩ | ⟨g, cap, cur, h', hb, hh, hnc, hcm, hcs, htake⟩
  · omega
  · simp only [Value.slice.injEq] at h'
    obtain ⟨rfl, rfl, rfl⟩ := h'
    refine ⟨by simp, .inr ⟨g, c, cur, by simp, hb, hh, by simp; omega, hcm, hcs, ?_⟩⟩
    simp only [Nat.mul_one] at htake
    rw [List.map_dropLast, ← htake]
    simp only [Nat.mul_one, List.dropLast_eq_take, List.take_take, List.length_take, Array.length_toList]
    congr 1
    omega
end OwnS

theorem OwnS.snoc {B : Nat} {w : World} {v : Value} {ps : List Bs} {p : Bs} {s : ByteArray} (h : w.ownsRow B 9 1 v (ps.length + 1) (ps.map vS ++ #[Value.string s].toList)) (hs : s = str p) : OwnS B w v (ps ++ [p]) := by
  unfold OwnS
  subst hs
  simpa [vS] using h

end Go.Proofs.Ytcnoabkpilmanaa
