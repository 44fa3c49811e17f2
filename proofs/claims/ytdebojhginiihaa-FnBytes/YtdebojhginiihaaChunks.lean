/-
  Contracts of the laws' helpers on lists of chunks.
-/
import Derived.Test.YtdebojhginiihaaFlat
import Derived.Test.YtdebojhginiihaaBytes
namespace Go.Proofs.Ytdebojhginiihaa
open Go.RowKit
set_option linter.unusedVariables false

/-- The slice at address a reads as n chunks: digests D, bytes P. -/
def RdC (w : World) (a : Option Addr) (D : Nat → Int) (P : Nat → List Int) (n : Nat) : Prop :=
  0 < n → ∃ (b off : Nat) (A : Nat → Option Addr) (C : Nat → Nat), a = some ⟨b, off, none⟩ ∧ b < w.heap.size ∧ ∀ i, i < n → w.cell? ⟨b, off + i * 2, none⟩ = some (.int .i64 (D i)) ∧ w.cell? ⟨b, off + i * 2 + 1, none⟩ = some (.slice (A i) (P i).length (C i)) ∧ Reads .u8 w (A i) (P i)

theorem RdC.below {w w' : World} {a : Option Addr} {D : Nat → Int} {P : Nat → List Int} {n : Nat} (h : RdC w a D P n) (hk : Below w.heap.size w w') : RdC w' a D P n := by
  intro hn
  obtain ⟨b, off, A, C, e, hb, hc⟩ := h hn
  exact ⟨b, off, A, C, e, Nat.lt_of_lt_of_le hb hk.size, fun i hi => ⟨(hk.cell (p := ⟨b, off + i * 2, none⟩) hb).trans (hc i hi).1, (hk.cell (p := ⟨b, off + i * 2 + 1, none⟩) hb).trans (hc i hi).2.1, (hc i hi).2.2.below hk⟩⟩

/-- The cells of chunk i. -/
def chCells (D : Nat → Int) (P : Nat → List Int) (A : Nat → Option Addr) (C : Nat → Nat) (i : Nat) : List Value := [.int .i64 (D i), .slice (A i) (P i).length (C i)]

/-- v is a row of n chunks, each one's bytes in a block of their own; all blocks from B on and below T. -/
def GC (B T : Nat) (w : World) (v : Value) (D : Nat → Int) (P : Nat → List Int) (n : Nat) : Prop :=
  ∃ (A : Nat → Option Addr) (C : Nat → Nat), w.ownsRow B 53 2 v n (flat n (chCells D P A C)) ∧
    (∀ i, i < n → w.ownsRow B 5 1 (.slice (A i) (P i).length (C i)) (P i).length ((P i).map (Value.int .u8))) ∧
    (∀ i i' g, i < n → i' < n → (A i).map Addr.block = some g → (A i').map Addr.block = some g → i = i') ∧
    (∀ i g, i < n → (A i).map Addr.block = some g → g < T) ∧ ∀ b, v.ownBlock = some b → b < T

theorem Try.infoCh : (Try.prog.info? 53).map (fun i => (i.zero, i.size, i.bytes)) = some (some (.agg #[.int .i64 0, .slice none 0 0]), 2, 32) := by kernel_rfl





end Go.Proofs.Ytdebojhginiihaa
