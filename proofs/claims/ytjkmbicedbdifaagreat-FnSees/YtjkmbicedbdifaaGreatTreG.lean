/-
  The model's ListTree answers as the program's does.
-/
import Derived.Test.YtjkmbicedbdifaaGreatTreD
import Derived.Test.YtjkmbicedbdifaaGreatTreE
namespace Go.Proofs.YtjkmbicedbdifaaGreat
open Go.RowKit Go.Maps
set_option linter.unusedVariables false
attribute [local go_sem ↓] Go.wp_at_zero Go.wp_at_succ

theorem listC_fault {es : List En} {p : Bs} (h : treFaultP es ≠ 0) : listC es p = treFaultP es := by
  unfold listC
  by_cases h0 : p = [47]
  · rw [if_pos h0]
  · have h1 : askT es p = treFaultP es := by rw [askT, if_neg h]
    have h2 : statC es p = treFaultP es := by rw [statC, h1, if_neg h]
    rw [if_neg h0, h2, if_neg h]
theorem listC_top {es : List En} (h : treFaultP es = 0) : listC es [47] = 0 := by rw [listC, if_pos rfl, h]
theorem statC_path {es : List En} {p : Bs} (h : treFaultP es = 0) (hp : faultP p ≠ 0) : statC es p = faultP p := by
  have h1 : askT es p = faultP p := by rw [askT, if_pos h]
  rw [statC, h1, if_neg hp]
theorem listC_path {es : List En} {p : Bs} (h : treFaultP es = 0) (h0 : p ≠ [47]) (hp : faultP p ≠ 0) : listC es p = faultP p := by
  rw [listC, if_neg h0, statC_path h hp, if_neg hp]
theorem statC_ok {es : List En} {p : Bs} (h : treFaultP es = 0) (hp : faultP p = 0) : statC es p = if (findE es p).isSome then 0 else 4 := by
  have h1 : askT es p = 0 := by rw [askT, if_pos h, hp]
  rw [statC, if_pos h1]
theorem listC_none {es : List En} {p : Bs} (h : treFaultP es = 0) (hp : faultP p = 0) (hf : findE es p = none) : listC es p = 4 := by
  have h1 := statC_ok h hp
  rw [hf] at h1
  have h2 : statC es p = 4 := h1
  rw [listC, if_neg (fun e : p = [47] => fault_top (e ▸ hp)), h2]
  rfl
theorem listC_some {es : List En} {p : Bs} {e : En} (h : treFaultP es = 0) (hp : faultP p = 0) (hf : findE es p = some e) : listC es p = if e.kind = 2 then 0 else 9 := by
  have h1 := statC_ok h hp
  rw [hf] at h1
  have h2 : statC es p = 0 := h1
  simp only [listC, h2, hf, if_true]
  rw [if_neg (fun e : p = [47] => fault_top (e ▸ hp))]
theorem listL_bad {es : List En} {p : Bs} (h : listC es p ≠ 0) : listL es p = [] := by rw [listL, if_neg h]


set_option maxRecDepth 100000 in
set_option maxHeartbeats 800000 in
theorem lwNames_e (a b : Option Addr) (c1 c2 : Nat) (ms : List Bs) (w : World) (h : ReadsS w a ms) (h2 : ReadsS w b ms) (hl : ms.length ≤ 1048576) :
    Calls Tryz.prog 19 #[.slice a ms.length c1, .slice b ms.length c2] w fun e w' => e = .returned (.bool true) ∧ Below w.heap.size w w' := by
  have HA := hide h
  have HB := hide h2
  clear h h2
  go_enter Tryz.func19, Tryz.ntmps19
  go_wp2
  go_loopw [5] (fun i wr => ∃ k : Nat, k ≤ ms.length ∧ i = .int .i64 k ∧ Below w.heap.size w wr) (fun i _ => ms.length - (intOf i).toNat)
  case atStart => exact ⟨0, Nat.zero_le _, rfl, Below.refl _ _⟩
  case round =>
    obtain ⟨k, hk, rfl, hbel⟩ := hrel
    have HW := hide hbel
    clear hbel
    by_cases hlt : k < ms.length
    · obtain ⟨b1, o1, p1, rfl, hb1, hp1, e1⟩ := (HA.out.below HW.out).at hlt
      obtain ⟨b2, o2, p2, rfl, hb2, hp2, e2⟩ := (HB.out.below HW.out).at hlt
      have hpp : p2 = p1 := Option.some.inj (hp2.symm.trans hp1)
      subst hpp
      have hk0 : (0 : Int) ≤ (k : Int) := by omega
      have hk1 : (k : Int) < (ms.length : Int) := by omega
      clear hp1 hp2
      go_wp2
      go_quiet (fail)
      go_wp2
      go_roundw
      case rel => exact ⟨k + 1, by omega, by go_num, below_drewN HW.out _⟩
      case measure => simp [intOf]; omega
    · have hke : k = ms.length := by omega
      subst hke
      go_wp2
      go_ret
      exact ⟨rfl, HW.out⟩
end Go.Proofs.YtjkmbicedbdifaaGreat
