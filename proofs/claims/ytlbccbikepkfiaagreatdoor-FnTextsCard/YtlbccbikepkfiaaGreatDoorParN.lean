/-
  The model's l5Number.
-/
import Derived.Test.YtlbccbikepkfiaaGreatDoorJ1
import Derived.Test.YtlbccbikepkfiaaGreatDoorManN
namespace Go.Proofs.YtlbccbikepkfiaaGreatDoor
open Go.RowKit
set_option linter.unusedVariables false
set_option maxRecDepth 100000

theorem num_none : ∀ (l : Bs), l.foldl numStep none = none
  | [] => rfl
  | c :: l => by rw [List.foldl_cons]; exact num_none l
theorem num_go {n : Bs} {k : Nat} {x : Int} (hk : k < n.length) (h : (n.take k).foldl numStep (some 0) = some x) : (n.take (k + 1)).foldl numStep (some 0) = numStep (some x) n[k] := by
  rw [List.take_succ_eq_append_getElem hk, List.foldl_append, h]; rfl
theorem num_die {n : Bs} {k : Nat} (hk : k ≤ n.length) (h : (n.take k).foldl numStep (some 0) = none) : n.foldl numStep (some 0) = none := by
  have := List.take_append_drop k n
  rw [← this, List.foldl_append, h]
  exact num_none _
theorem str_at (n : Bs) (k : Nat) (h : k < (str n).size) (h' : k < n.length) : (str n)[k]'h = n[k] := by
  rfl
set_option maxHeartbeats 800000 in
theorem l5Number_any (n : Bs) (w : World) (hl : n.length ≤ 2097152) :
    Calls Tryz.prog 78 #[.string (str n)] w fun e w' => e = .returned (.tuple #[.int .i64 ((numS n).getD 0), .bool (numS n).isSome]) ∧ w' = w := by
  have hsz : (str n).size = n.length := str_size n
  by_cases h1 : n.length < 1 ∨ 2 < n.length
  · have HN := hide (show numS n = none by unfold numS; rw [if_pos h1])
    rw [HN.out]
    rw [← hsz] at h1 hl
    clear hsz HN
    generalize str n = s at *
    rcases h1 with h1 | h1
    · have i1 : (s.size : Int) < 1 := by omega
      go_enter Tryz.func78, Tryz.ntmps78
      go_wp2
      go_ret2
      exact ⟨rfl, rfl⟩
    · have i1 : ¬ (s.size : Int) < 1 := by omega
      have i2 : (2 : Int) < (s.size : Int) := by omega
      go_enter Tryz.func78, Tryz.ntmps78
      go_wp2
      go_ret2
      exact ⟨rfl, rfl⟩
  · have HN := hide (show numS n = n.foldl numStep (some 0) by unfold numS; rw [if_neg h1])
    rw [HN.out]
    have i1 : ¬ ((str n).size : Int) < 1 := by omega
    have i2 : ¬ (2 : Int) < ((str n).size : Int) := by omega
    have hs2 : (str n).size ≤ 2 := by omega
    have HZ := hide hsz
    clear hsz h1 HN hl
    obtain ⟨s, hs⟩ : ∃ s, s = str n := ⟨_, rfl⟩
    rw [← hs] at i1 i2 hs2 ⊢
    have HS := hide hs
    clear hs
    go_enter Tryz.func78, Tryz.ntmps78
    go_wp2
    go_loop [4, 5, 24] (fun m i _ => ∃ k : Nat, ∃ x : Int, k ≤ s.size ∧ i = .int .i64 k ∧ m = .int .i64 x ∧ Hid ((n.take k).foldl numStep (some 0) = some x) ∧ 0 ≤ x ∧ (k = 0 ∧ x = 0 ∨ k = 1 ∧ x ≤ 9 ∨ k = 2 ∧ x ≤ 99)) (fun _ i _ => s.size - (intOf i).toNat)
    case atStart => exact ⟨0, 0, Nat.zero_le _, rfl, rfl, hide rfl, by decide, by decide⟩
    case round =>
      obtain ⟨k, x, hk, rfl, rfl, HP, hx0, hx1⟩ := hrel
      by_cases hlt : k < s.size
      · have hkn : k < n.length := by have h2 := HZ.out; rw [← HS.out] at h2; omega
        have HC := hide (show s[k] = n[k] from by
          have h3 := HS.out
          clear HP
          subst h3
          rfl)
        have HG := hide (num_go hkn HP.out)
        have hsb : (s[k].toNat : Int) ≤ 255 := by have := s[k].toNat_lt; omega
        by_cases c1 : (s[k].toNat : Int) < 48 ∨ 57 < (s[k].toNat : Int)
        · have HD := hide (show n.foldl numStep (some 0) = none from num_die (k := k + 1) (by omega) (by rw [HG.out, ← HC.out]; simp only [numStep, Option.bind_some, if_pos c1]))
          rcases c1 with c1 | c1
          · go_wp2
            go_ret2
            exact ⟨ret_pair (by rw [HD.out]; rfl) (by rw [HD.out]; rfl), rfl⟩
          · have c2 : ¬ (s[k].toNat : Int) < 48 := by omega
            go_wp2
            go_ret2
            exact ⟨ret_pair (by rw [HD.out]; rfl) (by rw [HD.out]; rfl), rfl⟩
        · have HD := hide (show (n.take (k + 1)).foldl numStep (some 0) = some (x * 10 + ((s[k].toNat : Int) - 48)) by rw [HG.out, ← HC.out]; simp only [numStep, Option.bind_some, if_neg c1])
          have c2 : ¬ (s[k].toNat : Int) < 48 := by omega
          have c3 : ¬ (57 : Int) < (s[k].toNat : Int) := by omega
          have hk2 : k < 2 := by omega
          clear c1
          go_wp2
          go_round
          case rel => exact ⟨k + 1, _, by omega, by go_num, by go_num, HD, by omega, by omega⟩
          case measure => simp [intOf]; omega
      · have HE := hide (show n.foldl numStep (some 0) = some x by have h2 := HP.out; have h3 := HZ.out; rw [← HS.out] at h3; have : k = n.length := by omega
                                                                   rw [this, List.take_length] at h2; exact h2)
        go_wp2
        go_ret2
        exact ⟨ret_pair (by rw [HE.out]; rfl) (by rw [HE.out]; rfl), rfl⟩
end Go.Proofs.YtlbccbikepkfiaaGreatDoor
