/-
  Contracts of the model's and the program's ParseHex.
-/
import Derived.Test.YtokcibegjhfofakDoorHex
import Derived.Lib.Bytealg
namespace Go.Proofs.YtokcibegjhfofakDoor
open Go.RowKit
set_option linter.unusedVariables false
set_option maxRecDepth 100000

/-- What a digit tells. -/
def hv (c : Int) : Option Int := if 48 ≤ c ∧ c ≤ 57 then some (c - 48) else if 97 ≤ c ∧ c ≤ 102 then some (c - 87) else none
def pvStep (a : Option Int) (c : UInt8) : Option Int := a.bind fun x => (hv c.toNat).map fun d => x * 16 + d
def pv (l : List UInt8) : Option Int := l.foldl pvStep (some 0)

theorem pv_none (l : List UInt8) : l.foldl pvStep none = none := by
  induction l with
  | nil => rfl
  | cons a l ih => exact ih
theorem pv_step (s : ByteArray) (k : Nat) (h : k < s.size) : pv (s.data.toList.take (k + 1)) = pvStep (pv (s.data.toList.take k)) s[k] := by
  unfold pv
  rw [List.take_succ_eq_append_getElem (by simpa using h), List.foldl_append]
  rfl
theorem pv_stop (s : ByteArray) (k : Nat) (h : pv (s.data.toList.take k) = none) : pv s.data.toList = none := by
  have e : s.data.toList = s.data.toList.take k ++ s.data.toList.drop k := (List.take_append_drop k _).symm
  unfold pv at h ⊢
  rw [e, List.foldl_append, h, pv_none]
theorem hv_yes1 {c : Int} (h : 48 ≤ c) (h2 : c ≤ 57) : hv c = some (c - 48) := by simp [hv, h, h2]
theorem hv_yes2 {c : Int} (h : 97 ≤ c) (h2 : c ≤ 102) : hv c = some (c - 87) := by
  have : ¬ (48 ≤ c ∧ c ≤ 57) := by omega
  simp only [hv, if_neg this, if_pos (And.intro h h2)]
theorem hv_no {c : Int} (h : ¬ (48 ≤ c ∧ c ≤ 57)) (h2 : ¬ (97 ≤ c ∧ c ≤ 102)) : hv c = none := by
  simp only [hv, if_neg h, if_neg h2]

theorem pv_go {s : ByteArray} {k : Nat} {x d : Int} (h : k < s.size) (hp : pv (s.data.toList.take k) = some x) (hd : hv s[k].toNat = some d) : pv (s.data.toList.take (k + 1)) = some (x * 16 + d) := by
  rw [pv_step s k h, hp]; simp [pvStep, hd]
theorem pv_die {s : ByteArray} {k : Nat} {x : Int} (h : k < s.size) (hp : pv (s.data.toList.take k) = some x) (hd : hv s[k].toNat = none) : pv s.data.toList = none := by
  refine pv_stop s (k + 1) ?_
  rw [pv_step s k h, hp]; simp [pvStep, hd]
theorem pv_end {s : ByteArray} {k : Nat} {o : Option Int} (h : s.size ≤ k) (hp : pv (s.data.toList.take k) = o) : pv s.data.toList = o := by
  rw [List.take_of_length_le (by simpa using h)] at hp; exact hp
theorem pow_go {k : Nat} {x d : Int} (hx : x < 16 ^ k) (hd : d ≤ 15) : x * 16 + d < 16 ^ (k + 1) := by
  rw [Int.pow_succ]; omega
theorem pow_7 {k : Nat} {x : Int} (hk : k < 8) (hx : x < 16 ^ k) : x ≤ 268435455 := by
  have : (16 : Int) ^ k ≤ 16 ^ 7 := by
    have := Nat.pow_le_pow_right (n := 16) (by decide) (show k ≤ 7 by omega)
    exact_mod_cast this
  omega
theorem or_join (x d : Int) (h0 : 0 ≤ x) (h1 : x ≤ 268435455) (d0 : 0 ≤ d) (d1 : d ≤ 15) : bits .or .u32 (x * 16) d = x * 16 + d :=
  bits_join .u32 32 (by decide) (fun n a b => by rw [IntKind.wrap_u32]; omega) 4 (x * 16) d (by omega) (by omega) (by omega) d0 (by omega) (by omega)
theorem ret_pair {a b : Int} {c d : Bool} (h : a = b) (h2 : c = d) : Ending.returned (.tuple #[.int .i64 a, .bool c]) = .returned (.tuple #[.int .i64 b, .bool d]) := by rw [h, h2]
theorem hv_cases (c : Int) (h0 : 0 ≤ c) : (∃ d, hv c = some d ∧ 0 ≤ d ∧ d ≤ 15) ∨ hv c = none := by
  by_cases h1 : 48 ≤ c ∧ c ≤ 57
  · exact .inl ⟨_, hv_yes1 h1.1 h1.2, by omega, by omega⟩
  · by_cases h2 : 97 ≤ c ∧ c ≤ 102
    · exact .inl ⟨_, hv_yes2 h2.1 h2.2, by omega, by omega⟩
    · exact .inr (hv_no h1 h2)

theorem index_hv : ∀ n : Fin 256, Lib.indexByte [48, 49, 50, 51, 52, 53, 54, 55, 56, 57, 97, 98, 99, 100, 101, 102] n.val.toUInt8 = (hv n.val).getD (-1) := by decide +kernel



/-- What both hand back. -/
def pvCode (s : ByteArray) : Int := if s.size = 8 ∧ (pv s.data.toList).isSome then 0 else 5
def pvValue (s : ByteArray) : Int := if s.size = 8 then (pv s.data.toList).getD 0 else 0





end Go.Proofs.YtokcibegjhfofakDoor
