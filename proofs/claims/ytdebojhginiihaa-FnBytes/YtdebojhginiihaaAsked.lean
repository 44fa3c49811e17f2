/-
  Digests that are asked for: contracts of the model's and the program's functions on them.
-/
import Derived.Test.YtdebojhginiihaaStoreC
import Derived.Test.YtdebojhginiihaaIntsR
namespace Go.Proofs.Ytdebojhginiihaa
open Go.RowKit Go.Maps
set_option linter.unusedVariables false

/-- The fault of one digest. -/
def digFault (zs : List Int) (i : Nat) : Option Int := if 0 ≤ zs.getD i 0 ∧ zs.getD i 0 ≤ 4294967295 then none else some 3
/-- The fault of digests that are asked for. -/
def asked (zs : List Int) : Int := if 3 < zs.length then 2 else firstBad (digFault zs) 0 zs.length
theorem asked_zero {zs : List Int} (h : asked zs = 0) : zs.length ≤ 3 ∧ ∀ i, i < zs.length → 0 ≤ zs.getD i 0 ∧ zs.getD i 0 ≤ 4294967295 := by
  unfold asked at h
  split at h
  · omega
  · refine ⟨by omega, fun i hi => ?_⟩
    have := firstBad_none (f := digFault zs) (fun j c hc => by unfold digFault at hc; split at hc <;> simp at hc; omega) _ _ h i (Nat.zero_le _) (by omega)
    unfold digFault at this
    split at this
    · assumption
    · cases this
/-- The fault of a list of chunks and digests. -/
def both (F : Int) (zs : List Int) : Int := if F = 0 then asked zs else F
theorem digFault_ok {zs : List Int} {k : Nat} {z : Int} (hz : zs.getD k 0 = z) (h0 : 0 ≤ z) (h1 : z ≤ 4294967295) : digFault zs k = none := by unfold digFault; rw [hz, if_pos ⟨h0, h1⟩]
theorem digFault_no {zs : List Int} {k : Nat} {z : Int} (hz : zs.getD k 0 = z) (h : ¬ (0 ≤ z ∧ z ≤ 4294967295)) : digFault zs k = some 3 := by unfold digFault; rw [hz, if_neg h]

set_option maxRecDepth 100000 in
set_option maxHeartbeats 800000 in
theorem l2Digests_any (a : Option Addr) (c : Nat) (zs : List Int) (w : World) (h : Reads .i64 w a zs) (hl : zs.length ≤ 1048576) :
    Calls Try.prog 61 #[.slice a zs.length c] w fun e w' => e = .returned (.int .i64 (asked zs)) ∧ w' = w := by
  by_cases hbig : 3 < zs.length
  · have hb : (3 : Int) < (zs.length : Int) := by omega
    have hf : asked zs = 2 := by simp [asked, hbig]
    rw [hf]
    go_enter Try.func61, Try.ntmps61
    go_wp2
    go_ret
    exact ⟨rfl, rfl⟩
  · have hb : ¬ (3 : Int) < (zs.length : Int) := by omega
    have HF : Hid (asked zs = firstBad (digFault zs) 0 (zs.length - 0)) := by simp [asked, hbig, Hid]
    generalize hfl : asked zs = F at HF ⊢
    clear hfl
    have HA := hide h
    clear h
    go_enter Try.func61, Try.ntmps61
    go_wp2
    go_loop [3] (fun i => ∃ k : Nat, k ≤ zs.length ∧ i = .int .i64 k ∧ F = firstBad (digFault zs) k (zs.length - k)) (fun i => zs.length - (intOf i).toNat)
    case atStart => exact ⟨0, Nat.zero_le _, rfl, HF.out⟩
    case round =>
      obtain ⟨k, hk, rfl, hF⟩ := hrel
      have HF := hide hF
      clear hF
      by_cases hlt : k < zs.length
      · obtain ⟨b, off, rfl, hb1, hc⟩ := HA.out (by intro e; simp [e] at hlt)
        have hc1 := hc k hlt
        generalize hz : zs.getD k 0 = z at hc1
        have HZ := hide hz
        clear hz hc
        by_cases c1 : 0 ≤ z
        · by_cases c2 : z ≤ 4294967295
          · go_wp2
            go_round
            case rel => exact ⟨k + 1, by omega, by go_num, by rw [HF.out]; exact firstBad_miss hlt (digFault_ok HZ.out c1 c2)⟩
            case measure => simp [intOf]; omega
          · go_wp2
            go_ret
            exact ⟨ret_int (by rw [HF.out]; exact (firstBad_hit hlt (digFault_no HZ.out (by omega))).symm), rfl⟩
        · go_wp2
          go_ret
          exact ⟨ret_int (by rw [HF.out]; exact (firstBad_hit hlt (digFault_no HZ.out (by omega))).symm), rfl⟩
      · go_wp2
        go_ret
        exact ⟨ret_int (by rw [HF.out]; exact (firstBad_end (by omega)).symm), rfl⟩

set_option maxRecDepth 100000 in
set_option maxHeartbeats 800000 in
theorem l2Both_any (a : Option Addr) (c n : Nat) (D : Nat → Int) (P : Nat → List Int) (a2 : Option Addr) (c2 : Nat) (zs : List Int) (w : World) (h : RdC w a D P n) (hn : n ≤ 1048576) (hP : ∀ i, i < n → U8 (P i) ∧ (P i).length ≤ 1048576) (h2 : Reads .i64 w a2 zs) (hl : zs.length ≤ 1048576) :
    Calls Try.prog 50 #[.slice a n c, .slice a2 zs.length c2] w fun e w' => e = .returned (.int .i64 (both (fault D P n) zs)) ∧ Below w.heap.size w w' := by
  have HC := hide (specFault_any a c n D P w h hn hP)
  have HR := hide h2
  generalize fault D P n = F at *
  clear h hP h2
  by_cases hF : F = 0
  · subst hF
    go_enter Try.func50, Try.ntmps50
    go_wp2_with fail
    refine HC.out.mono ?_
    rintro e w1 ⟨rfl, b1⟩
    have B1 := hide b1
    clear b1
    go_wp2_with fail
    refine (l2Digests_any a2 c2 zs w1 (HR.out.below B1.out) hl).mono ?_
    rintro e w2 ⟨rfl, rfl⟩
    generalize hG : asked zs = G
    have HG := hide hG
    clear hG
    go_wp2_with fail
    go_ret
    exact ⟨ret_int (by unfold both; rw [if_pos rfl, HG.out]), B1.out⟩
  · have hne : (F != 0) = true := by simpa using hF
    go_enter Try.func50, Try.ntmps50
    go_wp2_with fail
    refine HC.out.mono ?_
    rintro e w1 ⟨rfl, b1⟩
    have B1 := hide b1
    clear b1
    go_wp2_with fail
    go_ret
    exact ⟨ret_int (by unfold both; rw [if_neg hF]), B1.out⟩

set_option maxRecDepth 100000 in
set_option maxHeartbeats 1600000 in
theorem askedFault_any (a : Option Addr) (c n : Nat) (D : Nat → Int) (P : Nat → List Int) (a2 : Option Addr) (c2 : Nat) (zs : List Int) (w : World) (h : RdC w a D P n) (hn : n ≤ 1048576) (hP : ∀ i, i < n → U8 (P i) ∧ (P i).length ≤ 1048576) (h2 : Reads .i64 w a2 zs) (hl : zs.length ≤ 1048576) :
    Calls Try.prog 48 #[.slice a n c, .slice a2 zs.length c2] w fun e w' => e = .returned (.int .i64 (both (fault D P n) zs)) ∧ Below w.heap.size w w' := by
  have HC := hide (implFault_any a c n D P w h hn hP)
  have HR := hide h2
  generalize fault D P n = F at *
  clear h hP h2
  by_cases hF : F = 0
  · subst hF
    unfold both
    rw [if_pos rfl]
    by_cases hbig : 3 < zs.length
    · have hb : (3 : Int) < (zs.length : Int) := by omega
      have hf : asked zs = 2 := by simp [asked, hbig]
      rw [hf]
      go_enter Try.func48, Try.ntmps48
      go_wp2_with fail
      refine HC.out.mono ?_
      rintro e w1 ⟨rfl, b1⟩
      have B1 := hide b1
      clear b1
      go_wp2_with fail
      go_ret
      exact ⟨rfl, B1.out⟩
    · have hb : ¬ (3 : Int) < (zs.length : Int) := by omega
      have HF : Hid (asked zs = firstBad (digFault zs) 0 (zs.length - 0)) := by simp [asked, hbig, Hid]
      generalize hfl : asked zs = F at HF ⊢
      clear hfl
      go_enter Try.func48, Try.ntmps48
      go_wp2_with fail
      refine HC.out.mono ?_
      rintro e w1 ⟨rfl, b1⟩
      have B1 := hide b1
      have R1 := hide (HR.out.below b1)
      clear b1 HC HR
      go_wp2
      go_loop [7, 18] (fun _ i => ∃ k : Nat, k ≤ zs.length ∧ i = .int .i64 k ∧ F = firstBad (digFault zs) k (zs.length - k)) (fun _ i => zs.length - (intOf i).toNat)
      case atStart => exact ⟨0, Nat.zero_le _, rfl, HF.out⟩
      case round =>
        obtain ⟨k, hk, rfl, hF⟩ := hrel
        have HF := hide hF
        clear hF
        by_cases hlt : k < zs.length
        · obtain ⟨b, off, rfl, hb1, hc⟩ := R1.out (by intro e; simp [e] at hlt)
          have hc1 := hc k hlt
          generalize hz : zs.getD k 0 = z at hc1
          have HZ := hide hz
          clear hz hc
          by_cases c1 : 0 ≤ z
          · by_cases c2 : z ≤ 4294967295
            · go_wp2
              go_round
              case rel => exact ⟨k + 1, by omega, by go_num, by rw [HF.out]; exact firstBad_miss hlt (digFault_ok HZ.out c1 c2)⟩
              case measure => simp [intOf]; omega
            · go_wp2
              go_ret
              exact ⟨ret_int (by rw [HF.out]; exact (firstBad_hit hlt (digFault_no HZ.out (by omega))).symm), B1.out⟩
          · go_wp2
            go_ret
            exact ⟨ret_int (by rw [HF.out]; exact (firstBad_hit hlt (digFault_no HZ.out (by omega))).symm), B1.out⟩
        · go_wp2
          go_ret
          exact ⟨ret_int (by rw [HF.out]; exact (firstBad_end (by omega)).symm), B1.out⟩
  · have hne : (F != 0) = true := by simpa using hF
    go_enter Try.func48, Try.ntmps48
    go_wp2_with fail
    refine HC.out.mono ?_
    rintro e w1 ⟨rfl, b1⟩
    have B1 := hide b1
    clear b1
    go_wp2_with fail
    go_ret
    exact ⟨ret_int (by unfold both; rw [if_neg hF]), B1.out⟩

end Go.Proofs.Ytdebojhginiihaa
