/-
  Contracts of the laws' helpers on IntsResult.
-/
import Derived.Test.YtlbccbikepkfiaaGreatDoorJ1
namespace Go.Proofs.YtlbccbikepkfiaaGreatDoor
open Go.RowKit
set_option linter.unusedVariables false

/-- v is a row of the int64s ds in a block of its own, from B on and below T. -/
def G1 (B T : Nat) (w : World) (v : Value) (ds : List Int) : Prop :=
  w.ownsRow B 2 1 v ds.length (ds.map (Value.int .i64)) ∧ ∀ b, v.ownBlock = some b → b < T
theorem G1.kept {S : Nat → Prop} {B T : Nat} {w w' : World} {v : Value} {ds : List Int} (h : G1 B T w v ds) (hk : Kept S w w') (hS : ∀ b, B ≤ b → b < T → ¬ S b) : G1 B T w' v ds :=
  ⟨ownsRow_kept h.1 hk (fun b hb => hS b (h.1.lt b hb).1 (h.2 b hb)), h.2⟩
theorem G1.below {B T : Nat} {w w' : World} {v : Value} {ds : List Int} (h : G1 B T w v ds) (hk : Below w.heap.size w w') : G1 B T w' v ds :=
  h.kept (S := fun _ => False) (Kept.of_below hk) (fun _ _ _ => id)
theorem G1.mk {B : Nat} {w : World} {v : Value} {ds : List Int} {n : Nat} (h : w.ownsRow B 2 1 v n (ds.map (Value.int .i64))) (hn : n = ds.length) : G1 B w.heap.size w v ds := by
  subst hn
  exact ⟨h, fun b hb => (h.lt b hb).2⟩
theorem G1.own {B T : Nat} {w : World} {a : Option Addr} {c : Nat} {ds : List Int} (h : G1 B T w (.slice a ds.length c) ds) : Own .i64 w a ds := ownsRow_own h.1 rfl
theorem G1.mark {B T : Nat} {w w' : World} {a : Option Addr} {c : Nat} {ds ys : List Int} (h : G1 B T w (.slice a ds.length c) ds) (hl : ys.length = ds.length) (ho : Own .i64 w' a ys) (hs : SameShape w w') : G1 B T w' (.slice a ds.length c) ys := by
  obtain ⟨h1, h2⟩ := h
  refine ⟨?_, h2⟩
  rw [hl]
  rcases h1.2 with ⟨h', h0⟩ | ⟨g, cap, cur, h', hb, hh, hnc, hcm, hcs, htake⟩
  · have e : ys = [] := List.eq_nil_of_length_eq_zero (by omega)
    have e2 : ds = [] := List.eq_nil_of_length_eq_zero h0
    subst e e2
    rw [h']
    exact World.ownsRow_nil _ _ _ _
  · simp only [Value.slice.injEq, true_and] at h'
    obtain ⟨rfl, rfl⟩ := h'
    refine own_back h1 hs (by simp [hl]) (fun t ht => ?_)
    obtain ⟨b, off, e1, hb, hc⟩ := ho (by intro e; rw [e] at hl; simp at hl; omega)
    simp only [Option.some.injEq, Addr.mk.injEq, and_true] at e1
    obtain ⟨rfl, rfl⟩ := e1
    have := (hc t (by omega)).1
    rw [Nat.zero_add] at this
    rw [this]
    have ht2 : t < ys.length := by omega
    simp [List.getD_eq_getElem?_getD, ht2]




end Go.Proofs.YtlbccbikepkfiaaGreatDoor
