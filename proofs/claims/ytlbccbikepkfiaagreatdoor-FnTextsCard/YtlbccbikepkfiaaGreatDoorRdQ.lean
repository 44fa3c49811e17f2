/-
  The program's ParseManifest: what cannot be read is a panic that is recovered.
-/
import Derived.Test.YtlbccbikepkfiaaGreatDoorJ1
import Derived.Defers
import Derived.Recover
import Derived.Laws.Pointers
namespace Go.Proofs.YtlbccbikepkfiaaGreatDoor
open Go.RowKit
set_option linter.unusedVariables false
set_option maxRecDepth 100000

/-- A block of three cells that may be written. -/
def Three (w : World) (b : Nat) (u0 u1 u2 : Value) : Prop := (w.cell? ⟨b, 0, none⟩ = some u0 ∧ w.cell? ⟨b, 1, none⟩ = some u1 ∧ w.cell? ⟨b, 2, none⟩ = some u2) ∧ w.frozen? ⟨b, 0, none⟩ = false ∧ w.frozen? ⟨b, 1, none⟩ = false ∧ w.frozen? ⟨b, 2, none⟩ = false
theorem Three.new (w : World) (u0 u1 u2 : Value) (t : TypeId) : Three (w.alloc (.cells #[u0, u1, u2] t)) w.heap.size u0 u1 u2 := ⟨⟨by simp, by simp, by simp⟩, by simp, by simp, by simp⟩
theorem Three.below {w w' : World} {b : Nat} {u0 u1 u2 : Value} (h : Three w b u0 u1 u2) (hk : Below w.heap.size w w') : Three w' b u0 u1 u2 := by
  have hlt : b < w.heap.size := World.block_lt_of_cell? w ⟨b, 0, none⟩ h.1.1
  exact ⟨⟨(hk.cell (p := ⟨b, 0, none⟩) hlt).trans h.1.1, (hk.cell (p := ⟨b, 1, none⟩) hlt).trans h.1.2.1, (hk.cell (p := ⟨b, 2, none⟩) hlt).trans h.1.2.2⟩, (hk.frozen (p := ⟨b, 0, none⟩) hlt).trans h.2.1, (hk.frozen (p := ⟨b, 1, none⟩) hlt).trans h.2.2.1, (hk.frozen (p := ⟨b, 2, none⟩) hlt).trans h.2.2.2⟩



theorem ownIntsR {w : World} {B : Nat} {e : TypeId} {k : IntKind} {a : Option Addr} {n c : Nat} {zs : List Int} (h : w.ownsRow B e 1 (.slice a n c) n (zs.map (Value.int k))) (hn : n = zs.length) : Reads k w a zs := by
  intro hz
  have h0 : 0 < n := by rw [hn]; exact List.length_pos_iff.2 hz
  obtain ⟨g, cap, hv, hg, hgl, hc, hf⟩ := ownsRow_ints h hn h0
  simp only [Value.slice.injEq, true_and] at hv
  exact ⟨g, 0, hv.1, hgl, fun i hi => by rw [Nat.zero_add]; exact hc i (by omega)⟩

theorem readP_len {t n : Bs} {ds : List Int} (h : readP t = some (n, ds)) : n.length ≤ t.length ∧ ds.length ≤ t.length := by
  unfold readP at h
  have hT := trim_len t
  have h1 := cutC_length (m := 32) (trimL t)
  have h2 := cutC_each (m := 32) (trimL t)
  split at h
  · rename_i a m d r hc
    cases hm : (d :: r).mapM hexW with
    | none => rw [hm] at h; simp at h
    | some ds' =>
      rw [hm] at h
      simp at h
      obtain ⟨rfl, rfl⟩ := h
      have h3 := congrArg List.length (hexW_back hm).1
      rw [List.length_map] at h3
      rw [hc] at h1 h2
      simp only [List.length_cons] at h1 h3
      exact ⟨by have := h2 m (by simp); omega, by omega⟩
  · cases h
end Go.Proofs.YtlbccbikepkfiaaGreatDoor
