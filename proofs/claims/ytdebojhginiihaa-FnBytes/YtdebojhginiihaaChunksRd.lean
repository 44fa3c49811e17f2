/-
  A list of chunks that is owned is read so.
-/
import Derived.Test.YtdebojhginiihaaChunks
namespace Go.Proofs.Ytdebojhginiihaa
open Go.RowKit
set_option linter.unusedVariables false

theorem chCells_length (D : Nat → Int) (P : Nat → List Int) (A : Nat → Option Addr) (C : Nat → Nat) (i : Nat) : (chCells D P A C i).length = 2 := rfl

/-- The bytes of a slice that is owned are read. -/
theorem reads_owned {w : World} {B : Nat} {e : TypeId} {k : IntKind} {a : Option Addr} {n c : Nat} {zs : List Int} (h : w.ownsRow B e 1 (.slice a n c) n (zs.map (Value.int k))) (hn : n = zs.length) : Reads k w a zs := by
  intro hz
  have h0 : 0 < n := by rw [hn]; exact List.length_pos_iff.2 hz
  obtain ⟨g, cap, hv, hg, hgl, hc, hf⟩ := ownsRow_ints h hn h0
  simp only [Value.slice.injEq, true_and] at hv
  exact ⟨g, 0, hv.1, hgl, fun i hi => by rw [Nat.zero_add]; exact hc i (by omega)⟩

theorem GC.rd {B T : Nat} {w : World} {a : Option Addr} {c : Nat} {D : Nat → Int} {P : Nat → List Int} {n : Nat} (h : GC B T w (.slice a n c) D P n) : RdC w a D P n := by
  intro hn
  obtain ⟨A, C, h1, h2, h3, h4, h5⟩ := h
  rcases h1.2 with ⟨_, h0⟩ | ⟨g, cap, cur, h', hb, hh, hnc, hcm, hcs, htake⟩
  · omega
  · simp only [Value.slice.injEq, true_and] at h'
    obtain ⟨rfl, rfl⟩ := h'
    have hf := fun i r hi hr => flat_get (n := n) (k := 2) (F := chCells D P A C) (fun i _ => chCells_length _ _ _ _ _) i r hi hr
    refine ⟨g, 0, A, C, rfl, (h1.lt g rfl).2, fun i hi => ⟨?_, ?_, reads_owned (h2 i hi) rfl⟩⟩
    · rw [Nat.zero_add, h1.cellAt (i * 2) (by omega)]
      have := hf i 0 hi (by decide)
      rw [Nat.add_zero] at this
      rw [this]; rfl
    · rw [Nat.zero_add, h1.cellAt (i * 2 + 1) (by omega), hf i 1 hi (by decide)]; rfl

theorem GC.kept {S : Nat → Prop} {B T : Nat} {w w' : World} {v : Value} {D : Nat → Int} {P : Nat → List Int} {n : Nat} (h : GC B T w v D P n) (hk : Kept S w w') (hS : ∀ b, B ≤ b → b < T → ¬ S b) : GC B T w' v D P n := by
  obtain ⟨A, C, h1, h2, h3, h4, h5⟩ := h
  refine ⟨A, C, ownsRow_kept h1 hk (fun b hb => hS b (h1.lt b hb).1 (h5 b hb)), fun i hi => ownsRow_kept (h2 i hi) hk (fun b hb => hS b ((h2 i hi).lt b hb).1 (h4 i b hi ?_)), h3, h4, h5⟩
  cases hA : A i with
  | none => rw [hA] at hb; simp [Value.ownBlock] at hb
  | some x => rw [hA] at hb; simpa [Value.ownBlock] using hb
theorem GC.below {B T : Nat} {w w' : World} {v : Value} {D : Nat → Int} {P : Nat → List Int} {n : Nat} (h : GC B T w v D P n) (hk : Below w.heap.size w w') : GC B T w' v D P n :=
  h.kept (S := fun _ => False) (Kept.of_below hk) (fun _ _ _ => id)

theorem GC.mono {B B' T : Nat} {w : World} {v : Value} {D : Nat → Int} {P : Nat → List Int} {n : Nat} (h : GC B T w v D P n) (hB : B' ≤ B) : GC B' T w v D P n := by
  obtain ⟨A, C, h1, h2, h3, h4, h5⟩ := h
  exact ⟨A, C, ownsRow_mono h1 hB, fun i hi => ownsRow_mono (h2 i hi) hB, h3, h4, h5⟩
theorem GC.wide {B T T' : Nat} {w : World} {v : Value} {D : Nat → Int} {P : Nat → List Int} {n : Nat} (h : GC B T w v D P n) (hT : T ≤ T') : GC B T' w v D P n := by
  obtain ⟨A, C, h1, h2, h3, h4, h5⟩ := h
  exact ⟨A, C, h1, h2, h3, fun i g hi hg => Nat.lt_of_lt_of_le (h4 i g hi hg) hT, fun b hb => Nat.lt_of_lt_of_le (h5 b hb) hT⟩
theorem GC.nil (B T : Nat) (w : World) (D : Nat → Int) (P : Nat → List Int) : GC B T w (.slice none 0 0) D P 0 :=
  ⟨fun _ => none, fun _ => 0, World.ownsRow_nil _ _ _ _, fun i hi => absurd hi (by omega), fun i i' g hi => absurd hi (by omega), fun i g hi => absurd hi (by omega), fun b hb => by simp [Value.ownBlock] at hb⟩
theorem RdC.congr {w : World} {a : Option Addr} {D D' : Nat → Int} {P P' : Nat → List Int} {n : Nat} (h : RdC w a D P n) (hD : ∀ i, i < n → D' i = D i) (hP : ∀ i, i < n → P' i = P i) : RdC w a D' P' n := by
  intro hn
  obtain ⟨b, off, A, C, e, hb, hc⟩ := h hn
  exact ⟨b, off, A, C, e, hb, fun i hi => by rw [hD i hi, hP i hi]; exact hc i hi⟩

end Go.Proofs.Ytdebojhginiihaa
