/-
  Contracts of the model's and the program's ParseHex.
-/
import Derived.Test.YtcknabinmbknaaaGreatDoorHex
import Derived.Lib.Bytealg
namespace Go.Proofs.YtcknabinmbknaaaGreatDoor
open Go.RowKit
set_option linter.unusedVariables false
set_option maxRecDepth 100000

/-- What a digit tells. -/
def hv (c : Int) : Option Int := if 48 ≤ c ∧ c ≤ 57 then some (c - 48) else if 97 ≤ c ∧ c ≤ 102 then some (c - 87) else none
def pvStep (a : Option Int) (c : UInt8) : Option Int := a.bind fun x => (hv c.toNat).map fun d => x * 16 + d
def pv (l : List UInt8) : Option Int := l.foldl pvStep (some 0)

theorem pv_none (l : List UInt8) : l.foldl pvStep none = none := by
  induction l with
  | nil => rfl
  | cons a l ih => exact ih
theorem pv_step (s : ByteArray) (k : Nat) (h : k < s.size) : pv (s.data.toList.take (k + 1)) = pvStep (pv (s.data.toList.take k)) s[k] := by
  unfold pv
  rw [List.take_succ_eq_append_getElem (by simpa using h), List.foldl_append]
  rfl
theorem pv_stop (s : ByteArray) (k : Nat) (h : pv (s.data.toList.take k) = none) : pv s.data.toList = none := by
  have e : s.data.toList = s.data.toList.take k ++ s.data.toList.drop k := (List.take_append_drop k _).symm
  unfold pv at h ⊢
  rw [e, List.foldl_append, h, pv_none]
theorem hv_yes1 {c : Int} (h : 48 ≤ c) (h2 : c ≤ 57) : hv c = some (c - 48) := by simp [hv, h, h2]
theorem hv_yes2 {c : Int} (h : 97 ≤ c) (h2 : c ≤ 102) : hv c = some (c - 87) := by
  have : ¬ (48 ≤ c ∧ c ≤ 57) := by omega
  simp only [hv, if_neg this, if_pos (And.intro h h2)]
theorem hv_no {c : Int} (h : ¬ (48 ≤ c ∧ c ≤ 57)) (h2 : ¬ (97 ≤ c ∧ c ≤ 102)) : hv c = none := by
  simp only [hv, if_neg h, if_neg h2]

theorem pv_go {s : ByteArray} {k : Nat} {x d : Int} (h : k < s.size) (hp : pv (s.data.toList.take k) = some x) (hd : hv s[k].toNat = some d) : pv (s.data.toList.take (k + 1)) = some (x * 16 + d) := by
  rw [pv_step s k h, hp]; simp [pvStep, hd]
theorem pv_die {s : ByteArray} {k : Nat} {x : Int} (h : k < s.size) (hp : pv (s.data.toList.take k) = some x) (hd : hv s[k].toNat = none) : pv s.data.toList = none := by
  refine pv_stop s (k + 1) ?_
  rw [pv_step s k h, hp]; simp [pvStep, hd]
theorem pv_end {s : ByteArray} {k : Nat} {o : Option Int} (h : s.size ≤ k) (hp : pv (s.data.toList.take k) = o) : pv s.data.toList = o := by
  rw [List.take_of_length_le (by simpa using h)] at hp; exact hp
theorem pow_go {k : Nat} {x d : Int} (hx : x < 16 ^ k) (hd : d ≤ 15) : x * 16 + d < 16 ^ (k + 1) := by
  rw [Int.pow_succ]; omega
theorem pow_7 {k : Nat} {x : Int} (hk : k < 8) (hx : x < 16 ^ k) : x ≤ 268435455 := by
  have : (16 : Int) ^ k ≤ 16 ^ 7 := by
    have := Nat.pow_le_pow_right (n := 16) (by decide) (show k ≤ 7 by omega)
    exact_mod_cast this
  omega
theorem or_join (x d : Int) (h0 : 0 ≤ x) (h1 : x ≤ 268435455) (d0 : 0 ≤ d) (d1 : d ≤ 15) : bits .or .u32 (x * 16) d = x * 16 + d :=
  bits_join .u32 32 (by decide) (fun n a b => by rw [IntKind.wrap_u32]; omega) 4 (x * 16) d (by omega) (by omega) (by omega) d0 (by omega) (by omega)
theorem ret_pair {a b : Int} {c d : Bool} (h : a = b) (h2 : c = d) : Ending.returned (.tuple #[.int .i64 a, .bool c]) = .returned (.tuple #[.int .i64 b, .bool d]) := by rw [h, h2]
theorem hv_cases (c : Int) (h0 : 0 ≤ c) : (∃ d, hv c = some d ∧ 0 ≤ d ∧ d ≤ 15) ∨ hv c = none := by
  by_cases h1 : 48 ≤ c ∧ c ≤ 57
  · exact .inl ⟨_, hv_yes1 h1.1 h1.2, by omega, by omega⟩
  · by_cases h2 : 97 ≤ c ∧ c ≤ 102
    · exact .inl ⟨_, hv_yes2 h2.1 h2.2, by omega, by omega⟩
    · exact .inr (hv_no h1 h2)

theorem index_hv : ∀ n : Fin 256, Lib.indexByte [48, 49, 50, 51, 52, 53, 54, 55, 56, 57, 97, 98, 99, 100, 101, 102] n.val.toUInt8 = (hv n.val).getD (-1) := by decide +kernel

set_option maxRecDepth 100000 in
theorem indexByte_any (c : UInt8) (w : World) :
    Calls Tryz.prog 139 #[.string ⟨#[48, 49, 50, 51, 52, 53, 54, 55, 56, 57, 97, 98, 99, 100, 101, 102]⟩, .int .u8 c.toNat] w fun e w' => e = .returned (.int .i64 ((hv c.toNat).getD (-1))) ∧ w' = w := by
  go_enter Tryz.func139, Tryz.ntmps139
  go_wp2
  rw [run_callFunc_extern Tryz.func155 (by kernel_rfl) (by kernel_rfl) (by kernel_rfl) (e := Extern.BytealgIndexByte.indexByte) (by kernel_rfl), Lib.run_indexByteString]
  simp only [Result.andThen]
  rw [Oper.upon_value]
  go_wp2
  go_ret
  refine ⟨ret_int ?_, rfl⟩
  have := index_hv ⟨c.toNat, c.toNat_lt⟩
  simpa using this

set_option maxHeartbeats 800000 in
theorem l1Parse_any (s : ByteArray) (w : World) (hs : s.size = 8) :
    Calls Tryz.prog 82 #[.string s] w fun e w' => e = .returned (.tuple #[.int .i64 ((pv s.data.toList).getD 0), .bool (pv s.data.toList).isSome]) ∧ w' = w := by
  have hne : ((s.size : Int) != 8) = false := by simp [hs]
  have hs8 : 8 ≤ s.size := by omega
  have HS := hide hs
  clear hs
  go_enter Tryz.func82, Tryz.ntmps82
  go_wp2
  go_loop [4, 5, 6, 17, 30] (fun n i _ _ _ => ∃ k : Nat, ∃ x : Int, k ≤ 8 ∧ i = .int .i64 k ∧ n = .int .i64 x ∧ pv (s.data.toList.take k) = some x ∧ 0 ≤ x ∧ x < 16 ^ k) (fun _ i _ _ _ => 8 - (intOf i).toNat)
  case atStart => exact ⟨0, 0, Nat.zero_le _, rfl, rfl, rfl, by decide, by decide⟩
  case round =>
    obtain ⟨k, x, hk, rfl, rfl, hpv, hx0, hx1⟩ := hrel
    have HP := hide hpv
    clear hpv
    by_cases hlt : k < 8
    · have hx2 : x ≤ 268435455 := pow_7 hlt hx1
      have HX1 := hide hx1
      clear hx1
      have hks : k < s.size := by omega
      by_cases c1 : 48 ≤ (s[k].toNat : Int) ∧ (s[k].toNat : Int) ≤ 57
      · obtain ⟨c1, c2⟩ := c1
        go_wp2
        go_round
        case rel => exact ⟨k + 1, _, by omega, by go_num, rfl, pv_go hks HP.out (hv_yes1 c1 c2), by omega, pow_go HX1.out (by omega)⟩
        case measure => simp [intOf]; omega
      · by_cases c2 : 97 ≤ (s[k].toNat : Int) ∧ (s[k].toNat : Int) ≤ 102
        · obtain ⟨c2, c3⟩ := c2
          have c4 : 48 ≤ (s[k].toNat : Int) := by omega
          have c5 : ¬ (s[k].toNat : Int) ≤ 57 := by omega
          clear c1
          go_wp2
          go_round
          case rel => exact ⟨k + 1, _, by omega, by go_num, by go_num, pv_go hks HP.out (hv_yes2 c2 c3), by omega, pow_go HX1.out (by omega)⟩
          case measure => simp [intOf]; omega
        · have hdie := pv_die hks HP.out (hv_no c1 c2)
          have HD := hide hdie
          clear hdie
          rcases (show (s[k].toNat : Int) < 48 ∨ (57 < (s[k].toNat : Int) ∧ (s[k].toNat : Int) < 97) ∨ 102 < (s[k].toNat : Int) from by omega) with c3 | c3 | c3
          all_goals
            clear c1 c2
            go_wp2
            go_ret2
            exact ⟨ret_pair (by rw [HD.out]; rfl) (by rw [HD.out]; rfl), rfl⟩
    · have hend := pv_end (by have := HS.out; omega) HP.out
      have HE := hide hend
      clear hend
      go_wp2
      go_ret2
      exact ⟨ret_pair (by rw [HE.out]; rfl) (by rw [HE.out]; rfl), rfl⟩

/-- What both hand back. -/
def pvCode (s : ByteArray) : Int := if s.size = 8 ∧ (pv s.data.toList).isSome then 0 else 5
def pvValue (s : ByteArray) : Int := if s.size = 8 then (pv s.data.toList).getD 0 else 0

theorem l1Parse_len (s : ByteArray) (w : World) (hs : s.size ≠ 8) :
    Calls Tryz.prog 82 #[.string s] w fun e w' => e = .returned (.tuple #[.int .i64 0, .bool false]) ∧ w' = w := by
  have hne : ((s.size : Int) != 8) = true := by simp; omega
  go_enter Tryz.func82, Tryz.ntmps82
  go_wp2
  go_ret2
  exact ⟨rfl, rfl⟩



set_option maxHeartbeats 800000 in
theorem implParseHex_any (s : ByteArray) (w : World) :
    Calls Tryz.prog 119 #[.string s] w fun e w' => e = .returned (.agg #[.int .i64 (pvCode s), .int .i64 (pvValue s)]) ∧ Below w.heap.size w w' := by
  by_cases hs : s.size = 8
  · have hne : ((s.size : Int) != 8) = false := by simp [hs]
    have hs8 : 8 ≤ s.size := by omega
    have hs9 : s.size ≤ 8 := by omega
    have HS := hide hs
    clear hs
    go_enter Tryz.func119, Tryz.ntmps119
    go_wp2
    go_loop [3, 4, 5, 12] (fun n _ _ i => ∃ k : Nat, ∃ x : Int, k ≤ 8 ∧ i = .int .i64 k ∧ n = .int .u32 x ∧ pv (s.data.toList.take k) = some x ∧ 0 ≤ x ∧ x < 16 ^ k) (fun _ _ _ i => 8 - (intOf i).toNat)
    case atStart => exact ⟨0, 0, Nat.zero_le _, rfl, rfl, rfl, by decide, by decide⟩
    case round =>
      obtain ⟨k, x, hk, rfl, rfl, hpv, hx0, hx1⟩ := hrel
      have HP := hide hpv
      clear hpv
      by_cases hlt : k < 8
      · have hx2 : x ≤ 268435455 := pow_7 hlt hx1
        have HX1 := hide hx1
        clear hx1
        have hks : k < s.size := by omega
        rcases hv_cases (s[k].toNat : Int) (by omega) with ⟨d, hd, d0, d1⟩ | hd
        · have hj := or_join x d hx0 hx2 d0 d1
          have HD := hide hd
          clear hd
          go_wp2_with (go_at_call 139; refine (indexByte_any _ _).mono ?_; rintro e w' ⟨rfl, rfl⟩; rw [HD.out]; simp only [Option.getD_some])
          go_round
          case rel => exact ⟨k + 1, _, by omega, by go_num, rfl, pv_go hks HP.out HD.out, by omega, pow_go HX1.out (by omega)⟩
          case measure => simp [intOf]; omega
        · have hdie := pv_die hks HP.out hd
          have e1 : pvCode s = 5 := by simp [pvCode, hdie]
          have e2 : pvValue s = 0 := by simp [pvValue, hdie]
          have HD := hide hd
          have HE := hide (And.intro e1 e2)
          clear hd hdie e1 e2
          go_wp2_with (go_at_call 139; refine (indexByte_any _ _).mono ?_; rintro e w' ⟨rfl, rfl⟩; rw [HD.out]; simp only [Option.getD_none])
          obtain ⟨e1, e2⟩ := HE.out
          rw [e1, e2]
          exact bodyPost_ret (v := .agg #[.int .i64 5, .int .i64 0]) (by simp [results, Tryz.results119, go_sem]) rfl ⟨rfl, (Below.refl _ _).alloc (Nat.le_refl _) _⟩
      · have hend := pv_end (by omega) HP.out
        have e1 : pvCode s = 0 := by simp [pvCode, hend, HS.out]
        have e2 : pvValue s = x := by simp [pvValue, hend, HS.out]
        have hx2 : x < 4294967296 := by
          have hk8 : k = 8 := by omega
          subst hk8
          exact hx1
        have HE := hide (And.intro e1 e2)
        clear hend e1 e2 hx1
        go_wp2
        obtain ⟨e1, e2⟩ := HE.out
        rw [e1, e2]
        exact bodyPost_ret (v := .agg #[.int .i64 0, .int .i64 x]) (by simp [results, Tryz.results119, go_sem]) rfl ⟨rfl, (Below.refl _ _).alloc (Nat.le_refl _) _⟩
  · have hne : ((s.size : Int) != 8) = true := by simp; omega
    have e1 : pvCode s = 5 := by simp [pvCode, hs]
    have e2 : pvValue s = 0 := by simp [pvValue, hs]
    rw [e1, e2]
    clear e1 e2
    go_enter Tryz.func119, Tryz.ntmps119
    go_wp2
    exact bodyPost_ret (v := .agg #[.int .i64 5, .int .i64 0]) (by simp [results, Tryz.results119, go_sem]) rfl ⟨rfl, (Below.refl _ _).alloc (Nat.le_refl _) _⟩

end Go.Proofs.YtcknabinmbknaaaGreatDoor
