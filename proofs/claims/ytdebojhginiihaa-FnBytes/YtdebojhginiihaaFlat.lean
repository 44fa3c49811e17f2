/-
  Rows whose elements take several cells each: plain facts on lists.
-/
import Derived.Test.YtdebojhginiihaaMem
namespace Go.Proofs.Ytdebojhginiihaa
open Go.RowKit
set_option linter.unusedVariables false

/-- n elements, element i the cells F i. -/
def flat (n : Nat) (F : Nat → List Value) : List Value := (List.range n).flatMap F

theorem flat_succ (n : Nat) (F : Nat → List Value) : flat (n + 1) F = flat n F ++ F n := by
  simp [flat, List.range_succ]
theorem flat_length {k : Nat} {F : Nat → List Value} : ∀ {n : Nat}, (∀ i, i < n → (F i).length = k) → (flat n F).length = n * k
  | 0, _ => by simp [flat]
  | n + 1, h => by
    rw [flat_succ, List.length_append, flat_length (fun i hi => h i (by omega)), h n (by omega), Nat.succ_mul]
theorem flat_get {k : Nat} {F : Nat → List Value} : ∀ {n : Nat}, (∀ i, i < n → (F i).length = k) → ∀ i r, i < n → r < k → (flat n F)[i * k + r]? = (F i)[r]?
  | 0, _, i, r, hi, _ => by omega
  | n + 1, h, i, r, hi, hr => by
    have hl := flat_length (n := n) (F := F) (k := k) (fun i hi => h i (by omega))
    rw [flat_succ]
    by_cases e : i = n
    · subst e
      rw [List.getElem?_append_right (by omega), hl]
      congr 1
      omega
    · have hlt : i * k + r < n * k := by
        have : (i + 1) * k ≤ n * k := Nat.mul_le_mul_right k (by omega)
        rw [Nat.succ_mul] at this
        omega
      rw [List.getElem?_append_left (by omega)]
      exact flat_get (fun i hi => h i (by omega)) i r (by omega) hr
theorem flat_congr {F G : Nat → List Value} {n : Nat} (h : ∀ i, i < n → F i = G i) : flat n F = flat n G := by
  unfold flat
  induction n with
  | zero => rfl
  | succ n ih =>
    rw [List.range_succ, List.flatMap_append, List.flatMap_append, ih (fun i hi => h i (by omega))]
    simp [h n (by omega)]
theorem flat_set {k : Nat} {F : Nat → List Value} {n : Nat} (h : ∀ i, i < n → (F i).length = k) (i r : Nat) (hi : i < n) (hr : r < k) (u : Value) :
    (flat n F).set (i * k + r) u = flat n (fun t => if t = i then (F t).set r u else F t) := by
  have h' : ∀ t, t < n → (if t = i then (F t).set r u else F t).length = k := fun t ht => by
    by_cases e : t = i
    · rw [if_pos e, List.length_set]; exact h t ht
    · rw [if_neg e]; exact h t ht
  have l1 := flat_length h
  have l2 := flat_length h'
  apply List.ext_getElem?
  intro p
  by_cases hp : p < n * k
  · have hk : 0 < k := by omega
    have e : p = p / k * k + p % k := by rw [Nat.mul_comm]; exact (Nat.div_add_mod p k).symm
    have h1 : p / k < n := Nat.div_lt_of_lt_mul (by rw [Nat.mul_comm]; exact hp)
    have h2 : p % k < k := Nat.mod_lt _ hk
    generalize p / k = a at e h1
    generalize p % k = b at e h2
    subst e
    rw [flat_get h' a b h1 h2]
    by_cases ea : a = i
    · subst ea
      rw [if_pos rfl]
      by_cases eb : b = r
      · subst eb
        rw [List.getElem?_set_self (by omega), List.getElem?_set_self (by rw [h a h1]; omega)]
      · rw [List.getElem?_set_ne (by omega), List.getElem?_set_ne (by omega), flat_get h a b h1 h2]
    · rw [if_neg ea]
      have hne : i * k + r ≠ a * k + b := by
        intro e
        rcases Nat.lt_or_gt_of_ne ea with hlt | hgt
        · have : (a + 1) * k ≤ i * k := Nat.mul_le_mul_right k hlt
          rw [Nat.succ_mul] at this
          omega
        · have : (i + 1) * k ≤ a * k := Nat.mul_le_mul_right k hgt
          rw [Nat.succ_mul] at this
          omega
      rw [List.getElem?_set_ne hne, flat_get h a b h1 h2]
  · rw [List.getElem?_eq_none (by rw [List.length_set]; omega), List.getElem?_eq_none (by omega)]

end Go.Proofs.Ytdebojhginiihaa
