/-
  The model's chapter 3: joining, faults, what is above, and its faces.
-/
import Derived.Test.YtcnoabkpilmanaaPathM
namespace Go.Proofs.Ytcnoabkpilmanaa
open Go.RowKit
set_option linter.unusedVariables false

theorem str_append (a b : Bs) : str a ++ str b = str (a ++ b) := by
  apply ByteArray.ext
  simp [str]
theorem take_snoc_at {α : Type} {ps : List α} {k : Nat} {p : α} (h : ps[k]? = some p) : ps.take (k + 1) = ps.take k ++ [p] := by
  obtain ⟨hk, e⟩ := List.getElem?_eq_some_iff.1 h
  rw [List.take_succ_eq_append_getElem hk, e]
theorem join_step {ps : List Bs} {k : Nat} {p : Bs} (h : ps[k]? = some p) : joinB (ps.take (k + 1)) = joinB (ps.take k) ++ 47 :: p := by
  rw [take_snoc_at h, join_append]
  simp [joinB]
theorem join_str (x p : Bs) : str x ++ (⟨#[47]⟩ : ByteArray) ++ str p = str (x ++ 47 :: p) := by
  have e : (⟨#[47]⟩ : ByteArray) = str [47] := rfl
  rw [e, str_append, str_append]
  simp
theorem join_take_le (ps : List Bs) (k : Nat) : (joinB (ps.take k)).length ≤ (joinB ps).length := by
  conv => rhs; rw [← List.take_append_drop k ps, join_append]
  simp

set_option maxRecDepth 100000 in
set_option maxHeartbeats 800000 in
theorem l3Join_any (a : Option Addr) (cap : Nat) (ps : List Bs) (w : World) (h : ReadsS w a ps) (hn : ps.length ≤ 4194304) (hj : (joinB ps).length ≤ 4194304) (n : Nat) (hpn : n = ps.length) :
    Calls Try.prog 45 #[.slice a n cap] w fun e w' => e = .returned (.string (str (joinB ps))) ∧ w' = w := by
  have HR := hide h
  clear h
  subst hpn
  go_enter Try.func45, Try.ntmps45
  go_wp2
  go_loop [3, 4] (fun o i => ∃ (k : Nat) (x : Bs), k ≤ ps.length ∧ i = .int .i64 k ∧ o = .string (str x) ∧ Hid (x = joinB (ps.take k))) (fun _ i => ps.length - (intOf i).toNat)
  case atStart => exact ⟨0, [], Nat.zero_le _, rfl, rfl, hide rfl⟩
  case round =>
    obtain ⟨k, x, hk, rfl, rfl, HX⟩ := hrel
    by_cases hlt : k < ps.length
    · obtain ⟨b, off, p, rfl, hb, hp, hck⟩ := HR.out.at hlt
      have HE := hide (join_step hp)
      have hz := join_take_le ps (k + 1)
      rw [HE.out, ← HX.out] at hz
      simp only [List.length_append, List.length_cons] at hz
      have hz1 : ¬ 9223372036854775807 < (str x).size + 1 := by rw [str_size]; omega
      have hz2 : ¬ 9223372036854775807 < (str x).size + 1 + (str p).size := by rw [str_size, str_size]; omega
      have HP := hide hp
      clear hp
      go_wp2
      go_round
      case rel => exact ⟨k + 1, x ++ 47 :: p, by omega, by go_num, by rw [join_str], hide (by rw [HE.out, HX.out])⟩
      case measure => simp [intOf]; omega
    · have HE := hide (show ps.take k = ps from List.take_of_length_le (by omega))
      go_wp2
      go_ret
      exact ⟨ret_str (by rw [HX.out, HE.out]), rfl⟩

theorem head_tail (s : ByteArray) (h : 0 < s.size) : s.data.toList = s[0] :: s.data.toList.tail := by
  have hl : 0 < s.data.toList.length := by rw [← Lib.size_eq]; exact h
  cases e : s.data.toList with
  | nil => rw [e] at hl; simp at hl
  | cons c r =>
    have : s[0] = s.data.toList[0] := rfl
    simp [this, e]
theorem tail_data (s : ByteArray) : (s.extract 1 s.size).data.toList = s.data.toList.tail := by
  rw [Lib.extract_data, List.drop_one, List.take_of_length_le (by rw [List.length_tail, ← Lib.size_eq]; exact Nat.le_refl _)]
theorem extract_le (s : ByteArray) (a b : Nat) : (s.extract a b).size ≤ s.size := by
  rw [Lib.size_eq, Lib.extract_data, Lib.size_eq s]
  simp
  omega
theorem isEmpty_no {s : ByteArray} (h : 0 < s.size) : s.toList.isEmpty = false := by
  rw [ByteArray.toList_eq, head_tail s h]; rfl
theorem faultP_no {s : ByteArray} (h : 0 < s.size) (hc : s[0] ≠ 47) : faultP s.data.toList = 5 := by
  rw [head_tail s h]; simp [faultP, hc]
theorem faultP_yes {s : ByteArray} (h : 0 < s.size) (hc : s[0] = 47) : faultP s.data.toList = faultN (cutB s.data.toList.tail) := by
  conv => lhs; rw [head_tail s h]
  simp [faultP, hc]
theorem faultN_text {ns : List Bs} {k : Nat} {p : Bs} (h : ns[k]? = some p) (hp : plain p = false) : faultN ns = 5 := by
  have : ns.all plain = false := by rw [List.all_eq_false]; exact ⟨p, List.mem_of_getElem? h, by simp [hp]⟩
  simp [faultN, this]
theorem all_snoc {f : Bs → Bool} {ns : List Bs} {k : Nat} {p : Bs} (h : ns[k]? = some p) (ha : (ns.take k).all f = true) (hp : f p = true) : (ns.take (k + 1)).all f = true := by
  rw [take_snoc_at h]; simp [ha, hp]
theorem faultN_long {ns : List Bs} {k : Nat} {p : Bs} (ha : ns.all plain = true) (h : ns[k]? = some p) (hp : 4 < p.length) : faultN ns = 2 := by
  have : ns.all (fun n => decide (n.length ≤ 4)) = false := by rw [List.all_eq_false]; exact ⟨p, List.mem_of_getElem? h, by simp; omega⟩
  simp [faultN, ha, this]
theorem faultN_many {ns : List Bs} (ha : ns.all plain = true) (h : 3 < ns.length) : faultN ns = 2 := by
  have : ¬ ns.length ≤ 3 := by omega
  simp [faultN, ha, this]
theorem faultN_ok {ns : List Bs} (ha : ns.all plain = true) (hb : ns.all (fun n => decide (n.length ≤ 4)) = true) (h : ns.length ≤ 3) : faultN ns = 0 := by
  simp only [faultN, ha, hb, h, decide_true, Bool.and_self, if_true]
theorem all_end {f : Bs → Bool} {ns : List Bs} {k : Nat} (hk : ns.length ≤ k) (ha : (ns.take k).all f = true) : ns.all f = true := by
  rwa [List.take_of_length_le hk] at ha

set_option maxRecDepth 100000 in
set_option maxHeartbeats 1600000 in
theorem l3Fault_any (s : ByteArray) (w : World) (hs : s.size ≤ 2097152) :
    Calls Try.prog 11 #[.string s] w fun e w' => e = .returned (.int .i64 (faultP s.data.toList)) ∧ Below w.heap.size w w' := by
  by_cases h0 : 0 < s.size
  · have he := isEmpty_no h0
    by_cases hc : (s[0].toNat : Int) = 47
    · have HF := hide (faultP_yes h0 (by apply UInt8.toNat_inj.1; show _ = 47; omega))
      have HT := hide (tail_data s)
      have hel := extract_le s 1 s.size
      have hcl := cutB_length s.data.toList.tail
      have hel2 : s.data.toList.tail.length ≤ s.size := by rw [List.length_tail, ← Lib.size_eq]; omega
      have HEa := hide (cutB_each s.data.toList.tail)
      generalize hns : cutB s.data.toList.tail = ns at *
      have HN := hide hns
      clear hns
      have h1 : (1 : Int) ≤ (s.size : Int) := by omega
      go_enter Try.func11, Try.ntmps11
      go_wp2_with fail
      refine (l3Cut_any _ _ (by omega)).mono ?_
      rintro e w1 ⟨v, rfl, hO, hb1⟩
      rw [HT.out, HN.out] at hO
      obtain ⟨va, vc, rfl⟩ := hO.shape
      have HR := hide hO.reads
      have HB := hide hb1
      clear hO hb1
      go_wp2_with fail
      go_loop [4] (fun i => ∃ k : Nat, k ≤ ns.length ∧ i = .int .i64 k ∧ Hid ((ns.take k).all plain = true)) (fun i => ns.length - (intOf i).toNat)
      case atStart => exact ⟨0, Nat.zero_le _, rfl, hide (by simp)⟩
      case round =>
        obtain ⟨k, hk, rfl, HA⟩ := hrel
        by_cases hlt : k < ns.length
        · obtain ⟨b, off, p, rfl, hb, hp, hck⟩ := HR.out.at hlt
          have hpz : p.length ≤ 2097152 := by have := HEa.out p (List.mem_of_getElem? hp); omega
          have HP := hide hp
          clear hp
          cases hpl : plain p
          · have HZ := hide (faultN_text HP.out hpl)
            have HPL := hide hpl
            clear hpl
            go_wp2_with (go_at_call 23; refine (l3Plain_any _ _ (by rw [str_size]; omega)).mono ?_; rintro e w' ⟨rfl, rfl⟩; rw [str_data, HPL.out])
            go_ret
            exact ⟨ret_int (by rw [HF.out, HZ.out]), HB.out⟩
          · have HZ := hide (all_snoc HP.out HA.out hpl)
            have HPL := hide hpl
            clear hpl
            go_wp2_with (go_at_call 23; refine (l3Plain_any _ _ (by rw [str_size]; omega)).mono ?_; rintro e w' ⟨rfl, rfl⟩; rw [str_data, HPL.out])
            go_round
            case rel => exact ⟨k + 1, by omega, by go_num, HZ⟩
            case measure => simp [intOf]; omega
        · have HAll := hide (all_end (by omega) HA.out)
          clear HA
          go_wp2_with fail
          go_loop [5] (fun i => ∃ k : Nat, k ≤ ns.length ∧ i = .int .i64 k ∧ Hid ((ns.take k).all (fun n => decide (n.length ≤ 4)) = true)) (fun i => ns.length - (intOf i).toNat)
          case atStart => exact ⟨0, Nat.zero_le _, rfl, hide (by simp)⟩
          case round =>
            obtain ⟨m, hm, rfl, HA⟩ := hrel
            by_cases hlt2 : m < ns.length
            · obtain ⟨b, off, p, rfl, hb, hp, hck⟩ := HR.out.at hlt2
              have HP := hide hp
              clear hp
              by_cases hl4 : 4 < p.length
              · have HZ := hide (faultN_long HAll.out HP.out hl4)
                have hl5 : (4 : Int) < ((str p).size : Int) := by rw [str_size]; omega
                go_wp2_with fail
                go_ret
                exact ⟨ret_int (by rw [HF.out, HZ.out]), HB.out⟩
              · have HZ := hide (all_snoc HP.out HA.out (by simp; omega))
                have hl5 : ¬ (4 : Int) < ((str p).size : Int) := by rw [str_size]; omega
                go_wp2_with fail
                go_round
                case rel => exact ⟨m + 1, by omega, by go_num, HZ⟩
                case measure => simp [intOf]; omega
            · have HAll2 := hide (all_end (by omega) HA.out)
              clear HA
              by_cases hl3 : 3 < ns.length
              · have HZ := hide (faultN_many HAll.out hl3)
                have hl5 : (3 : Int) < (ns.length : Int) := by omega
                go_wp2_with fail
                go_ret
                exact ⟨ret_int (by rw [HF.out, HZ.out]), HB.out⟩
              · have HZ := hide (faultN_ok HAll.out HAll2.out (by omega))
                have hl5 : ¬ (3 : Int) < (ns.length : Int) := by omega
                go_wp2_with fail
                go_ret
                exact ⟨ret_int (by rw [HF.out, HZ.out]), HB.out⟩
    · have HF := hide (faultP_no h0 (by intro e; apply hc; rw [e]; rfl))
      have hc2 : ((s[0].toNat : Int) != 47) = true := by simp; omega
      go_enter Try.func11, Try.ntmps11
      go_wp2
      go_ret
      exact ⟨ret_int (by rw [HF.out]), Below.refl _ _⟩
  · have he : s = ⟨#[]⟩ := by
      have := Lib.size_eq s
      apply ByteArray.ext
      apply Array.toList_inj.1
      exact List.length_eq_zero_iff.1 (by omega)
    subst he
    go_enter Try.func11, Try.ntmps11
    go_wp2
    go_ret
    exact ⟨rfl, Below.refl _ _⟩

end Go.Proofs.Ytcnoabkpilmanaa
