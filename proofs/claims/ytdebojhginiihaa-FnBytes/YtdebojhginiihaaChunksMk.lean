/-
  Contracts of the laws' marking helpers on lists of chunks.
-/
import Derived.Test.YtdebojhginiihaaChunksRd
namespace Go.Proofs.Ytdebojhginiihaa
open Go.RowKit
set_option linter.unusedVariables false

/-- f with x at j. -/
def upd {α : Type} (f : Nat → α) (j : Nat) (x : α) : Nat → α := fun t => if t = j then x else f t
theorem upd_same {α : Type} (f : Nat → α) (j : Nat) (x : α) : upd f j x j = x := by simp [upd]
theorem upd_other {α : Type} (f : Nat → α) (j : Nat) (x : α) {t : Nat} (h : t ≠ j) : upd f j x t = f t := by simp [upd, h]

theorem GC.congr {B T : Nat} {w : World} {v : Value} {D D' : Nat → Int} {P P' : Nat → List Int} {n : Nat} (h : GC B T w v D P n) (hD : ∀ i, i < n → D' i = D i) (hP : ∀ i, i < n → P' i = P i) : GC B T w v D' P' n := by
  obtain ⟨A, C, h1, h2, h3, h4, h5⟩ := h
  refine ⟨A, C, ?_, fun i hi => by rw [hP i hi]; exact h2 i hi, h3, h4, h5⟩
  rw [flat_congr (G := chCells D P A C) (fun i hi => by simp [chCells, hD i hi, hP i hi])]
  exact h1

/-- Chunk j is at hand: its two cells, its bytes, and the way back behind a store of its digest and a writing of its bytes. -/
theorem GC.open {B T : Nat} {w : World} {a : Option Addr} {c : Nat} {D : Nat → Int} {P : Nat → List Int} {n j : Nat} (h : GC B T w (.slice a n c) D P n) (hj : j < n) :
    ∃ (G : Nat) (x : Option Addr) (y : Nat), a = some ⟨G, 0, none⟩ ∧ B ≤ G ∧ G < T ∧ w.cell? ⟨G, j * 2, none⟩ = some (.int .i64 (D j)) ∧ w.cell? ⟨G, j * 2 + 1, none⟩ = some (.slice x (P j).length y) ∧
      w.frozen? ⟨G, j * 2, none⟩ = false ∧ w.frozen? ⟨G, j * 2 + 1, none⟩ = false ∧ Own .u8 w x (P j) ∧ (∀ b, blkOf x b → B ≤ b ∧ b < T ∧ b ≠ G) ∧
      ∀ (d : Int) (ys : List Int) (w2 : World), ys.length = (P j).length → Own .u8 w2 x ys → Kept (blkOf x) (w.setCell ⟨G, j * 2, none⟩ (.int .i64 d)) w2 → SameShape (w.setCell ⟨G, j * 2, none⟩ (.int .i64 d)) w2 →
        GC B T w2 (.slice a n c) (upd D j d) (upd P j ys) n := by
  obtain ⟨A, C, h1, h2, h3, h4, h5⟩ := h
  rcases h1.2 with ⟨_, h0⟩ | ⟨G, cap, cur, h', hb, hh, hnc, hcm, hcs, htake⟩
  · omega
  · simp only [Value.slice.injEq, true_and] at h'
    obtain ⟨rfl, rfl⟩ := h'
    have hf := fun r hr => flat_get (n := n) (k := 2) (F := chCells D P A C) (fun i _ => rfl) j r hj hr
    have hown : ∀ b, blkOf (A j) b → (Value.slice (A j) (P j).length (C j)).ownBlock = some b := fun b hb => by
      cases hA : A j with
      | none => rw [hA] at hb; simp [blkOf] at hb
      | some x => rw [hA] at hb; simpa [Value.ownBlock, blkOf] using hb
    have hne : ∀ b, blkOf (A j) b → b ≠ G := fun b hb e => ownsRow_apart h1 (h2 j hj) (by decide) (by subst e; rfl) (hown b hb)
    refine ⟨G, A j, C j, rfl, hb, h5 G rfl, ?_, ?_, h1.frozenAt _, h1.frozenAt _, ownsRow_own (h2 j hj) rfl, fun b hb => ⟨((h2 j hj).lt b (hown b hb)).1, h4 j b hj hb, hne b hb⟩, ?_⟩
    · rw [h1.cellAt (j * 2) (by omega)]
      have := hf 0 (by decide)
      rw [Nat.add_zero] at this
      rw [this]; rfl
    · rw [h1.cellAt (j * 2 + 1) (by omega), hf 1 (by decide)]; rfl
    · intro d ys w2 hl ho hk hs
      have hlen : ∀ i, (upd P j ys i).length = (P i).length := fun i => by
        by_cases e : i = j
        · subst e; rw [upd_same]; exact hl
        · rw [upd_other _ _ _ e]
      have s1 := (h1.stored (j * 2) (.int .i64 d)).1
      have e := flat_set (n := n) (k := 2) (F := chCells D P A C) (fun i _ => rfl) j 0 hj (by decide) (.int .i64 d)
      rw [Nat.add_zero] at e
      rw [e] at s1
      have hk1 : Kept (fun b => b = G) w (w.setCell ⟨G, j * 2, none⟩ (.int .i64 d)) := Kept.setCell (S := fun b => b = G) (p := ⟨G, j * 2, none⟩) (Kept.refl _ _) (fun _ => rfl) _
      refine ⟨A, C, ?_, ?_, h3, h4, h5⟩
      · rw [flat_congr (G := fun t => if t = j then (chCells D P A C t).set 0 (.int .i64 d) else chCells D P A C t) (fun i hi => ?_)]
        · exact ownsRow_kept s1 hk (fun b hb hS => hne b hS (by simpa [Value.ownBlock, eq_comm] using hb))
        · by_cases e : i = j
          · subst e; simp [chCells, upd_same, hl]
          · simp [chCells, upd_other _ _ _ e, e]
      · intro i hi
        rw [hlen i]
        have r1 : (w.setCell ⟨G, j * 2, none⟩ (.int .i64 d)).ownsRow B 5 1 (.slice (A i) (P i).length (C i)) (P i).length ((P i).map (Value.int .u8)) :=
          ownsRow_kept (h2 i hi) hk1 (fun b hb e => ownsRow_apart h1 (h2 i hi) (by decide) (by subst e; rfl) hb)
        by_cases e : i = j
        · subst e
          rw [upd_same]
          rcases (h2 i hi).2 with ⟨h', h0⟩ | ⟨g, cap', cur', h', _⟩
          · simp only [Value.slice.injEq] at h'
            have e1 : ys = [] := List.eq_nil_of_length_eq_zero (by omega)
            subst e1
            rw [h'.1, h'.2.2, h0]
            exact World.ownsRow_nil _ _ _ _
          · simp only [Value.slice.injEq, true_and] at h'
            obtain ⟨hA, hC⟩ := h'
            rw [hA] at r1 ho ⊢
            refine own_back r1 hs (by simp [hl]) (fun t ht => ?_)
            obtain ⟨b, off, e1, hb, hc⟩ := ho (by intro e; rw [e] at hl; simp at hl; omega)
            simp only [Option.some.injEq, Addr.mk.injEq, and_true] at e1
            obtain ⟨rfl, rfl⟩ := e1
            have := (hc t (by omega)).1
            rw [Nat.zero_add] at this
            rw [this]
            have ht2 : t < ys.length := by omega
            simp [List.getD_eq_getElem?_getD, ht2]
        · rw [upd_other _ _ _ e]
          refine ownsRow_kept r1 hk (fun b hb hS => e (h3 i j b hi hj ?_ hS))
          cases hA : A i with
          | none => rw [hA] at hb; simp [Value.ownBlock] at hb
          | some x => rw [hA] at hb; simpa [Value.ownBlock] using hb

/-- What is written into chunk i. -/
def markD (k : Int) (P : Nat → List Int) (i : Nat) : Int := k + i + ahead P i
def markP (k : Int) (P : Nat → List Int) (i : Nat) : List Int := marks (k + i + ahead P i + 1) (P i).length



end Go.Proofs.Ytdebojhginiihaa
