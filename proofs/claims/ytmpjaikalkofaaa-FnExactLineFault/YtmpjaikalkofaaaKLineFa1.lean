/-
  Texts put together: Mem LogL.
-/
import Derived.Test.YtmpjaikalkofaaaRows
import Derived.WalkKit
import Derived.WalkSpells
import Derived.WalkLawsBesides
import Derived.Deep.OwnRows
import Derived.BigQuiet
import Derived.Deep.QuietTactic
import Derived.Carry
namespace Go.Proofs.Ytmpjaikalkofaaa
open Go.RowKit
set_option linter.unusedVariables false

theorem hide {p : Prop} (h : p) : Hid p := h

theorem ret_int {k : IntKind} {a b : Int} (h : a = b) : Ending.returned (.int k a) = .returned (.int k b) := by rw [h]

namespace Kept
variable {S T : Nat → Prop} {w w' w'' : World}
end Kept

end Go.Proofs.Ytmpjaikalkofaaa

namespace Go.Proofs.Ytmpjaikalkofaaa
open Go.RowKit
set_option linter.unusedVariables false

def lineB (c : UInt8) : Bool := decide (32 ≤ (c.toNat : Int) ∧ (c.toNat : Int) ≤ 126)
def lineF (l : List UInt8) : Int := if 1 ≤ l.length ∧ l.length ≤ 60 then (if l.all lineB then 0 else 5) else 2
theorem line_snoc (s : ByteArray) (k : Nat) (h : k < s.size) : s.data.toList.take (k + 1) = s.data.toList.take k ++ [s[k]] := by
  rw [List.take_succ_eq_append_getElem (by simpa using h)]; rfl
theorem line_take {s : ByteArray} {k : Nat} (h : k < s.size) (ha : (s.data.toList.take k).all lineB = true) (hc : lineB s[k] = true) : (s.data.toList.take (k + 1)).all lineB = true := by
  rw [line_snoc s k h]; simp [ha, hc]
theorem line_len (s : ByteArray) : s.data.toList.length = s.size := by simp
theorem lineF_bad {s : ByteArray} (h : ¬ (1 ≤ s.size ∧ s.size ≤ 60)) : lineF s.data.toList = 2 := by
  unfold lineF; rw [line_len, if_neg h]
theorem lineF_stop {s : ByteArray} {k : Nat} (hl : 1 ≤ s.size ∧ s.size ≤ 60) (h : k < s.size) (hc : lineB s[k] = false) : lineF s.data.toList = 5 := by
  have : s[k] ∈ s.data.toList := Array.mem_toList_iff.2 (Array.getElem_mem (xs := s.data) (i := k) h)
  have h2 : s.data.toList.all lineB = false := by
    rw [List.all_eq_false]; exact ⟨_, this, by simp [hc]⟩
  unfold lineF; rw [line_len, if_pos hl, h2]; rfl
theorem lineB_yes {c : UInt8} (h1 : ¬ (c.toNat : Int) < 32) (h2 : ¬ 126 < (c.toNat : Int)) : lineB c = true := decide_eq_true ⟨by omega, by omega⟩
theorem lineB_no {c : UInt8} (h : (c.toNat : Int) < 32 ∨ 126 < (c.toNat : Int)) : lineB c = false := decide_eq_false (by omega)
theorem lineF_end {s : ByteArray} {k : Nat} (hl : 1 ≤ s.size ∧ s.size ≤ 60) (hk : s.size ≤ k) (ha : (s.data.toList.take k).all lineB = true) : lineF s.data.toList = 0 := by
  rw [List.take_of_length_le (by simpa using hk)] at ha
  unfold lineF; rw [line_len, if_pos hl, ha]; rfl

set_option maxHeartbeats 400000 in
theorem specLineFault_any (s : ByteArray) (w : World) (hs : s.size ≤ 9223372036854775807) :
    Calls Try.prog 19 #[.string s] w fun e w' => e = .returned (.int .i64 (lineF s.data.toList)) ∧ w' = w := by
  by_cases h1 : s.size < 1
  · have HN := hide (lineF_bad (s := s) (by omega))
    go_enter Try.func19, Try.ntmps19
    go_wp2
    go_ret
    exact ⟨ret_int HN.out.symm, rfl⟩
  by_cases h2 : 60 < s.size
  · have HN := hide (lineF_bad (s := s) (by omega))
    go_enter Try.func19, Try.ntmps19
    go_wp2
    go_ret
    exact ⟨ret_int HN.out.symm, rfl⟩
  have HL := hide (show 1 ≤ s.size ∧ s.size ≤ 60 by omega)
  go_enter Try.func19, Try.ntmps19
  go_wp2
  go_loop [3] (fun i => ∃ k : Nat, k ≤ s.size ∧ i = .int .i64 k ∧ (s.data.toList.take k).all lineB = true) (fun i => s.size - (intOf i).toNat)
  case atStart => exact ⟨0, Nat.zero_le _, rfl, rfl⟩
  case round =>
    obtain ⟨k, hk, rfl, ha⟩ := hrel
    have HA := hide ha
    clear ha
    by_cases hlt : k < s.size
    · by_cases c1 : (s[k].toNat : Int) < 32
      · have HN := hide (lineF_stop HL.out hlt (lineB_no (.inl c1)))
        go_wp2
        go_ret
        exact ⟨ret_int HN.out.symm, rfl⟩
      · by_cases c2 : 126 < (s[k].toNat : Int)
        · have HN := hide (lineF_stop HL.out hlt (lineB_no (.inr c2)))
          go_wp2
          go_ret
          exact ⟨ret_int HN.out.symm, rfl⟩
        · have HN := hide (line_take hlt HA.out (lineB_yes c1 c2))
          go_wp2
          go_round
          case rel => exact ⟨k + 1, by omega, by go_num, HN.out⟩
          case measure => simp [intOf]; omega
    · have HN := hide (lineF_end HL.out (by omega : s.size ≤ k) HA.out)
      go_wp2
      go_ret
      exact ⟨ret_int HN.out.symm, rfl⟩

set_option maxHeartbeats 400000 in
theorem implLineFault_any (s : ByteArray) (w : World) (hs : s.size ≤ 9223372036854775807) :
    Calls Try.prog 18 #[.string s] w fun e w' => e = .returned (.int .i64 (lineF s.data.toList)) ∧ w' = w := by
  by_cases h1 : s.size < 1
  · have HN := hide (lineF_bad (s := s) (by omega))
    go_enter Try.func18, Try.ntmps18
    go_wp2
    go_ret
    exact ⟨ret_int HN.out.symm, rfl⟩
  by_cases h2 : 60 < s.size
  · have HN := hide (lineF_bad (s := s) (by omega))
    go_enter Try.func18, Try.ntmps18
    go_wp2
    go_ret
    exact ⟨ret_int HN.out.symm, rfl⟩
  have HL := hide (show 1 ≤ s.size ∧ s.size ≤ 60 by omega)
  go_enter Try.func18, Try.ntmps18
  go_wp2
  go_loop [3, 14] (fun _ i => ∃ k : Nat, k ≤ s.size ∧ i = .int .i64 k ∧ (s.data.toList.take k).all lineB = true) (fun _ i => s.size - (intOf i).toNat)
  case atStart => exact ⟨0, Nat.zero_le _, rfl, rfl⟩
  case round =>
    obtain ⟨k, hk, rfl, ha⟩ := hrel
    have HA := hide ha
    clear ha
    by_cases hlt : k < s.size
    · by_cases c1 : (s[k].toNat : Int) < 32
      · have HN := hide (lineF_stop HL.out hlt (lineB_no (.inl c1)))
        go_wp2
        go_ret
        exact ⟨ret_int HN.out.symm, rfl⟩
      · by_cases c2 : 126 < (s[k].toNat : Int)
        · have HN := hide (lineF_stop HL.out hlt (lineB_no (.inr c2)))
          go_wp2
          go_ret
          exact ⟨ret_int HN.out.symm, rfl⟩
        · have HN := hide (line_take hlt HA.out (lineB_yes c1 c2))
          go_wp2
          go_round
          case rel => exact ⟨k + 1, by omega, by go_num, HN.out⟩
          case measure => simp [intOf]; omega
    · have HN := hide (lineF_end HL.out (by omega : s.size ≤ k) HA.out)
      go_wp2
      go_ret
      exact ⟨ret_int HN.out.symm, rfl⟩
end Go.Proofs.Ytmpjaikalkofaaa

