/-
  Cutting at any one byte: the model's l3Cut, and strings.Cut.
-/
import Derived.Test.YtokcibegjhfofalPathM
import Derived.Test.YtokcibegjhfofalTxtL
import Derived.Test.YtokcibegjhfofalLayP
import Derived.Lib.IndexLaws
namespace Go.Proofs.Ytokcibegjhfofal
open Go.RowKit
set_option linter.unusedVariables false

theorem joinC_lib (m : UInt8) : ∀ (ps : List Bs), Lib.join ps [m] = joinC m ps
  | [] => rfl
  | [p] => by simp [Lib.join_cons, Lib.joinTail, joinC]
  | p :: q :: r => by
    have ih := joinC_lib m (q :: r)
    rw [Lib.join_cons] at ih ⊢
    simp only [Lib.joinTail, List.map_cons, List.flatten_cons, joinC, List.cons_append, List.nil_append] at ih ⊢
    rw [ih]

/-- What the model has cut up to byte k, the piece at hand beginning at j. -/
def cutAtC (m : UInt8) (l : Bs) (q : List Bs) (j k : Nat) : Prop := (k ≤ l.length → cutC m (l.take k) = q ++ [(l.drop j).take (k - j)]) ∧ (l.length < k → q = cutC m l)
theorem cutAtC_zero (m : UInt8) (l : Bs) : cutAtC m l [] 0 0 := ⟨fun _ => by simp [cutC], fun h => by omega⟩
theorem cutAtC_end {m : UInt8} {l : Bs} {q : List Bs} {j : Nat} (h : cutAtC m l q j l.length) : cutAtC m l (q ++ [(l.drop j).take (l.length - j)]) (l.length + 1) (l.length + 1) := by
  refine ⟨fun h => by omega, fun _ => ?_⟩
  rw [← h.1 (Nat.le_refl _), List.take_length]
theorem cutAtC_hit {m : UInt8} {s : ByteArray} {q : List Bs} {j k : Nat} (h : cutAtC m s.data.toList q j k) (hk : k < s.size) (hj : j ≤ k) (hc : s[k] = m) : cutAtC m s.data.toList (q ++ [(s.data.toList.drop j).take (k - j)]) (k + 1) (k + 1) := by
  have hl : s.data.toList.length = s.size := (Lib.size_eq s).symm
  refine ⟨fun _ => ?_, fun h' => by omega⟩
  rw [small_take_snoc s k hk, cutC_snoc _ _ _ _ (h.1 (by omega)), if_pos hc]
  simp
theorem cutAtC_miss {m : UInt8} {s : ByteArray} {q : List Bs} {j k : Nat} (h : cutAtC m s.data.toList q j k) (hk : k < s.size) (hj : j ≤ k) (hc : s[k] ≠ m) : cutAtC m s.data.toList q j (k + 1) := by
  have hl : s.data.toList.length = s.size := (Lib.size_eq s).symm
  refine ⟨fun _ => ?_, fun h' => by omega⟩
  rw [small_take_snoc s k hk, cutC_snoc _ _ _ _ (h.1 (by omega)), if_neg hc, take_piece s hj hk]



theorem indexC_miss {m : UInt8} {l : Bs} (h : m ∉ l) : Lib.indexByte l m = -1 := by
  induction l with
  | nil => rfl
  | cons c l ih =>
    have h1 : ¬ c = m := fun e => h (by simp [e])
    have h2 : m ∉ l := fun e => h (by simp [e])
    simp [Lib.indexByte, h1, ih h2]
theorem indexC_hit {m : UInt8} {a : Bs} (b : Bs) (h : m ∉ a) : Lib.indexByte (a ++ m :: b) m = a.length := by
  induction a with
  | nil => simp [Lib.indexByte]
  | cons c a ih =>
    have h1 : ¬ c = m := fun e => h (by simp [e])
    have h2 : m ∉ a := fun e => h (by simp [e])
    have ih := ih h2
    simp only [List.cons_append, Lib.indexByte, ih]
    have : ((a.length : Int) == -1) = false := by simp
    simp [h1, this]


end Go.Proofs.Ytokcibegjhfofal
