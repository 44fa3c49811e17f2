/-
  The model's chapter 3: joining, faults, what is above, and its faces.
-/
import Derived.Test.YtmehngcbafdcgaaDoorPathM
namespace Go.Proofs.YtmehngcbafdcgaaDoor
open Go.RowKit
set_option linter.unusedVariables false

theorem str_append (a b : Bs) : str a ++ str b = str (a ++ b) := by
  apply ByteArray.ext
  simp [str]
theorem take_snoc_at {α : Type} {ps : List α} {k : Nat} {p : α} (h : ps[k]? = some p) : ps.take (k + 1) = ps.take k ++ [p] := by
  obtain ⟨hk, e⟩ := List.getElem?_eq_some_iff.1 h
  rw [List.take_succ_eq_append_getElem hk, e]
theorem join_step {ps : List Bs} {k : Nat} {p : Bs} (h : ps[k]? = some p) : joinB (ps.take (k + 1)) = joinB (ps.take k) ++ 47 :: p := by
  rw [take_snoc_at h, join_append]
  simp [joinB]
theorem join_str (x p : Bs) : str x ++ (⟨#[47]⟩ : ByteArray) ++ str p = str (x ++ 47 :: p) := by
  have e : (⟨#[47]⟩ : ByteArray) = str [47] := rfl
  rw [e, str_append, str_append]
  simp
theorem join_take_le (ps : List Bs) (k : Nat) : (joinB (ps.take k)).length ≤ (joinB ps).length := by
  conv => rhs; rw [← List.take_append_drop k ps, join_append]
  simp


theorem head_tail (s : ByteArray) (h : 0 < s.size) : s.data.toList = s[0] :: s.data.toList.tail := by
  have hl : 0 < s.data.toList.length := by rw [← Lib.size_eq]; exact h
  cases e : s.data.toList with
  | nil => rw [e] at hl; simp at hl
  | cons c r =>
    have : s[0] = s.data.toList[0] := rfl
    simp [this, e]
theorem tail_data (s : ByteArray) : (s.extract 1 s.size).data.toList = s.data.toList.tail := by
  rw [Lib.extract_data, List.drop_one, List.take_of_length_le (by rw [List.length_tail, ← Lib.size_eq]; exact Nat.le_refl _)]
theorem extract_le (s : ByteArray) (a b : Nat) : (s.extract a b).size ≤ s.size := by
  rw [Lib.size_eq, Lib.extract_data, Lib.size_eq s]
  simp
  omega
theorem isEmpty_no {s : ByteArray} (h : 0 < s.size) : s.toList.isEmpty = false := by
  rw [ByteArray.toList_eq, head_tail s h]; rfl
theorem faultP_no {s : ByteArray} (h : 0 < s.size) (hc : s[0] ≠ 47) : faultP s.data.toList = 5 := by
  rw [head_tail s h]; simp [faultP, hc]
theorem faultP_yes {s : ByteArray} (h : 0 < s.size) (hc : s[0] = 47) : faultP s.data.toList = faultN (cutB s.data.toList.tail) := by
  conv => lhs; rw [head_tail s h]
  simp [faultP, hc]
theorem faultN_text {ns : List Bs} {k : Nat} {p : Bs} (h : ns[k]? = some p) (hp : plain p = false) : faultN ns = 5 := by
  have : ns.all plain = false := by rw [List.all_eq_false]; exact ⟨p, List.mem_of_getElem? h, by simp [hp]⟩
  simp [faultN, this]
theorem all_snoc {f : Bs → Bool} {ns : List Bs} {k : Nat} {p : Bs} (h : ns[k]? = some p) (ha : (ns.take k).all f = true) (hp : f p = true) : (ns.take (k + 1)).all f = true := by
  rw [take_snoc_at h]; simp [ha, hp]
theorem faultN_long {ns : List Bs} {k : Nat} {p : Bs} (ha : ns.all plain = true) (h : ns[k]? = some p) (hp : 4 < p.length) : faultN ns = 2 := by
  have : ns.all (fun n => decide (n.length ≤ 4)) = false := by rw [List.all_eq_false]; exact ⟨p, List.mem_of_getElem? h, by simp; omega⟩
  simp [faultN, ha, this]
theorem faultN_many {ns : List Bs} (ha : ns.all plain = true) (h : 3 < ns.length) : faultN ns = 2 := by
  have : ¬ ns.length ≤ 3 := by omega
  simp [faultN, ha, this]
theorem faultN_ok {ns : List Bs} (ha : ns.all plain = true) (hb : ns.all (fun n => decide (n.length ≤ 4)) = true) (h : ns.length ≤ 3) : faultN ns = 0 := by
  simp only [faultN, ha, hb, h, decide_true, Bool.and_self, if_true]
theorem all_end {f : Bs → Bool} {ns : List Bs} {k : Nat} (hk : ns.length ≤ k) (ha : (ns.take k).all f = true) : ns.all f = true := by
  rwa [List.take_of_length_le hk] at ha


end Go.Proofs.YtmehngcbafdcgaaDoor
