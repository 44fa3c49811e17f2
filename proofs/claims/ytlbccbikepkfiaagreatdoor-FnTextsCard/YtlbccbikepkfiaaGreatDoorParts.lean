/-
  Contracts of the laws' helpers on lists of byte slices.
-/
import Derived.Test.YtlbccbikepkfiaaGreatDoorJ2
namespace Go.Proofs.YtlbccbikepkfiaaGreatDoor
open Go.RowKit
set_option linter.unusedVariables false

/-- The slice at address a (n elements) reads as n byte slices, slice i reading as P i. -/
def Rd2 (w : World) (a : Option Addr) (P : Nat → List Int) (n : Nat) : Prop :=
  0 < n → ∃ (b off : Nat) (A : Nat → Option Addr) (C : Nat → Nat), a = some ⟨b, off, none⟩ ∧ b < w.heap.size ∧ ∀ i, i < n → w.cell? ⟨b, off + i, none⟩ = some (.slice (A i) (P i).length (C i)) ∧ Reads .u8 w (A i) (P i)

theorem Rd2.below {w w' : World} {a : Option Addr} {P : Nat → List Int} {n : Nat} (h : Rd2 w a P n) (hk : Below w.heap.size w w') : Rd2 w' a P n := by
  intro hn
  obtain ⟨b, off, A, C, e, hb, hc⟩ := h hn
  exact ⟨b, off, A, C, e, Nat.lt_of_lt_of_le hb hk.size, fun i hi => ⟨(hk.cell (p := ⟨b, off + i, none⟩) hb).trans (hc i hi).1, (hc i hi).2.below hk⟩⟩

theorem reads_of_ownsRow {w : World} {B : Nat} {e : TypeId} {k : IntKind} {g n c : Nat} {zs : List Int} (h : w.ownsRow B e 1 (.slice (some ⟨g, 0, none⟩) n c) n (zs.map (Value.int k))) (hn : n = zs.length) : Own k w (some ⟨g, 0, none⟩) zs := by
  intro hz
  have h0 : 0 < n := by rw [hn]; exact List.length_pos_iff.2 hz
  refine ⟨g, 0, rfl, (h.lt g rfl).2, fun i hi => ⟨?_, h.frozenAt _⟩⟩
  rw [Nat.zero_add, h.cellAt i (by omega)]
  simp [List.getD_eq_getElem?_getD, hi]

theorem Grow2.shape {B : Nat} {w : World} {v : Value} {P : Nat → List Int} {j : Nat} (h : Grow2 B w v P j) : ∃ a c, v = .slice a j c := by
  obtain ⟨A, C, h1, h2, h3⟩ := h
  exact ownsRow_shape h1

theorem Grow2.rd {B : Nat} {w : World} {a : Option Addr} {c : Nat} {P : Nat → List Int} {n : Nat} (h : Grow2 B w (.slice a n c) P n) : Rd2 w a P n := by
  intro hn
  obtain ⟨A, C, h1, h2, h3⟩ := h
  rcases h1.2 with ⟨h', h0⟩ | ⟨g, cap, cur, h', hb, hh, hnc, hcm, hcs, htake⟩
  · omega
  · simp only [Value.slice.injEq, true_and] at h'
    obtain ⟨rfl, rfl⟩ := h'
    refine ⟨g, 0, fun i => some ⟨A i, 0, none⟩, C, rfl, (h1.lt g rfl).2, fun i hi => ⟨?_, (reads_of_ownsRow (h2 i hi) rfl).reads⟩⟩
    rw [Nat.zero_add, h1.cellAt i (by omega)]
    simp [hi]


theorem Reads.drewN {k : IntKind} {w : World} {a : Option Addr} {zs : List Int} (h : Reads k w a zs) (n : Nat) : Reads k (w.drewN n) a zs := h


/-- The same, the slices' blocks below T. -/
def G2 (B T : Nat) (w : World) (v : Value) (P : Nat → List Int) (n : Nat) : Prop :=
  ∃ A C : Nat → Nat, w.ownsRow B 22 1 v n ((List.range n).map fun i => .slice (some ⟨A i, 0, none⟩) (P i).length (C i)) ∧
    (∀ i, i < n → w.ownsRow B 5 1 (.slice (some ⟨A i, 0, none⟩) (P i).length (C i)) (P i).length ((P i).map (Value.int .u8))) ∧
    (∀ i i', i < n → i' < n → A i = A i' → i = i') ∧ (∀ i, i < n → A i < T) ∧ ∀ b, v.ownBlock = some b → b < T
theorem Grow2.fit {B : Nat} {w : World} {v : Value} {P : Nat → List Int} {n : Nat} (h : Grow2 B w v P n) : G2 B w.heap.size w v P n := by
  obtain ⟨A, C, h1, h2, h3⟩ := h
  exact ⟨A, C, h1, h2, h3, fun i hi => ((h2 i hi).lt (A i) rfl).2, fun b hb => (h1.lt b hb).2⟩
theorem G2.grow {B T : Nat} {w : World} {v : Value} {P : Nat → List Int} {n : Nat} (h : G2 B T w v P n) : Grow2 B w v P n := by
  obtain ⟨A, C, h1, h2, h3, _⟩ := h
  exact ⟨A, C, h1, h2, h3⟩
theorem G2.kept {S : Nat → Prop} {B T : Nat} {w w' : World} {v : Value} {P : Nat → List Int} {n : Nat} (h : G2 B T w v P n) (hk : Kept S w w') (hS : ∀ b, B ≤ b → b < T → ¬ S b) : G2 B T w' v P n := by
  obtain ⟨A, C, h1, h2, h3, h4, h5⟩ := h
  exact ⟨A, C, ownsRow_kept h1 hk (fun b hb => hS b (h1.lt b hb).1 (h5 b hb)), fun i hi => ownsRow_kept (h2 i hi) hk (fun b hb => hS b ((h2 i hi).lt b hb).1 (by simp only [Value.ownBlock, Option.some.injEq] at hb; subst hb; exact h4 i hi)), h3, h4, h5⟩
theorem G2.below {B T : Nat} {w w' : World} {v : Value} {P : Nat → List Int} {n : Nat} (h : G2 B T w v P n) (hk : Below w.heap.size w w') : G2 B T w' v P n :=
  h.kept (S := fun _ => False) (Kept.of_below hk) (fun _ _ _ => id)

/-- What is written into slice i. -/
def marked (k : Int) (P : Nat → List Int) (i : Nat) : List Int := marks (k + ahead P i) (P i).length

theorem G2.congr {B T : Nat} {w : World} {v : Value} {P Q : Nat → List Int} {n : Nat} (h : G2 B T w v P n) (hQ : ∀ i, i < n → Q i = P i) : G2 B T w v Q n := by
  obtain ⟨A, C, h1, h2, h3, h45⟩ := h
  refine ⟨A, C, ?_, fun i hi => by rw [hQ i hi]; exact h2 i hi, h3, h45⟩
  have e : (List.range n).map (fun i => Value.slice (some ⟨A i, 0, none⟩) (Q i).length (C i)) = (List.range n).map (fun i => Value.slice (some ⟨A i, 0, none⟩) (P i).length (C i)) := by
    apply List.map_congr_left
    intro i hi
    rw [hQ i (List.mem_range.1 hi)]
  rw [e]; exact h1

/-- One slice is marked: the others stay. -/
theorem G2.mark {B T : Nat} {w w' : World} {v : Value} {P : Nat → List Int} {n j : Nat} {A C : Nat → Nat} {ys : List Int}
    (h1 : w.ownsRow B 22 1 v n ((List.range n).map fun i => .slice (some ⟨A i, 0, none⟩) (P i).length (C i)))
    (h2 : ∀ i, i < n → w.ownsRow B 5 1 (.slice (some ⟨A i, 0, none⟩) (P i).length (C i)) (P i).length ((P i).map (Value.int .u8)))
    (h3 : ∀ i i', i < n → i' < n → A i = A i' → i = i') (h45 : (∀ i, i < n → A i < T) ∧ ∀ b, v.ownBlock = some b → b < T) (hj : j < n) (hl : ys.length = (P j).length)
    (ho : Own .u8 w' (some ⟨A j, 0, none⟩) ys) (hk : Kept (blkOf (some ⟨A j, 0, none⟩)) w w') (hs : SameShape w w') (Q : Nat → List Int) (hQ : ∀ i, i < n → Q i = if i = j then ys else P i) :
    G2 B T w' v Q n := by
  have hlen : ∀ i, i < n → (Q i).length = (P i).length := fun i hi => by
    rw [hQ i hi]; by_cases e : i = j
    · subst e; rw [if_pos rfl]; exact hl
    · rw [if_neg e]
  refine ⟨A, C, ?_, ?_, h3, h45⟩
  · have e : (List.range n).map (fun i => Value.slice (some ⟨A i, 0, none⟩) (Q i).length (C i)) = (List.range n).map (fun i => Value.slice (some ⟨A i, 0, none⟩) (P i).length (C i)) := by
      apply List.map_congr_left
      intro i hi
      rw [hlen i (List.mem_range.1 hi)]
    rw [e]
    exact ownsRow_kept h1 hk (fun b hb hS => ownsRow_apart h1 (h2 j hj) (by decide) hb (by simpa [blkOf, Value.ownBlock] using hS))
  · intro i hi
    by_cases e : i = j
    · subst e
      rw [hQ i hi, if_pos rfl, hl]
      refine own_back (h2 i hi) hs (by simp [hl]) (fun t ht => ?_)
      obtain ⟨b, off, e1, hb, hc⟩ := ho (by intro e; rw [e] at hl; simp at hl; omega)
      simp only [Option.some.injEq, Addr.mk.injEq, and_true] at e1
      obtain ⟨rfl, rfl⟩ := e1
      have := (hc t (by omega)).1
      rw [Nat.zero_add] at this
      rw [this]
      have ht2 : t < ys.length := by omega
      simp [List.getD_eq_getElem?_getD, ht2]
    · rw [hQ i hi, if_neg e]
      exact ownsRow_kept (h2 i hi) hk (fun b hb hS => by
        simp only [Value.ownBlock, Option.some.injEq] at hb
        simp only [blkOf, Option.map_some, Option.some.injEq] at hS
        exact e (h3 i j hi hj (by omega)))






theorem U8.piece {zs : List Int} (h : U8 zs) (i : Nat) : U8 (piece zs i) := fun z hz => h z (List.mem_of_mem_drop (List.mem_of_mem_take hz))

theorem Grow2.at {B : Nat} {w : World} {a : Option Addr} {c : Nat} {P : Nat → List Int} {n j : Nat} (h : Grow2 B w (.slice a n c) P n) (hj : j < n) :
    ∃ g x d, a = some ⟨g, 0, none⟩ ∧ w.cell? ⟨g, j, none⟩ = some (.slice x (P j).length d) ∧ Reads .u8 w x (P j) := by
  obtain ⟨A, C, h1, h2, h3⟩ := h
  rcases h1.2 with ⟨_, h0⟩ | ⟨g, cap, cur, h', hb, hh, _⟩
  · omega
  · simp only [Value.slice.injEq, true_and] at h'
    obtain ⟨rfl, rfl⟩ := h'
    refine ⟨g, _, C j, rfl, ?_, (reads_of_ownsRow (h2 j hj) rfl).reads⟩
    rw [h1.cellAt j (by omega)]
    simp [hj]

end Go.Proofs.YtlbccbikepkfiaaGreatDoor
