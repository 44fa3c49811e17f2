/-
  Contracts of the model's and the program's functions that tell a list's fault.
-/
import Derived.Test.YtdebojhginiihaaFault
namespace Go.Proofs.Ytdebojhginiihaa
open Go.RowKit
set_option linter.unusedVariables false

set_option maxHeartbeats 400000 in
theorem specOne_any (d : Int) (a : Option Addr) (c : Nat) (zs : List Int) (w : World) (h : Reads .u8 w a zs) (hu : U8 zs) (hl : zs.length ≤ 1048576) :
    Calls Try.prog 45 #[.int .i64 d, .slice a zs.length c] w fun e w' => e = .returned (.int .i64 (oneFault d zs)) ∧ ∃ n, w' = w.drewN n := by
  have HR := hide h
  have HU := hide hu
  clear h hu
  unfold oneFault
  by_cases c1 : 0 ≤ d
  · by_cases c2 : d ≤ 4294967295
    · rw [if_pos ⟨c1, c2⟩]
      by_cases c3 : 1 ≤ zs.length
      · by_cases c4 : zs.length ≤ 8
        · rw [if_pos ⟨c3, c4⟩]
          have c3' : ¬ (zs.length : Int) < 1 := by omega
          have c4' : ¬ (8 : Int) < (zs.length : Int) := by omega
          have HD := hide (specDigestOf_any a c zs w HR.out HU.out hl)
          generalize digest zs = g at HD ⊢
          by_cases c5 : g = d
          · have c5' : (g != d) = false := by simp [c5]
            rw [if_pos c5]
            clear c5
            go_enter Try.func45, Try.ntmps45
            go_wp2_with (first | (go_at_call 16; refine HD.out.mono ?_; rintro e w1 ⟨rfl, rfl⟩) | go_in)
            go_ret
            exact ⟨rfl, 0, rfl⟩
          · have c5' : (g != d) = true := by simp [c5]
            rw [if_neg c5]
            clear c5
            go_enter Try.func45, Try.ntmps45
            go_wp2_with (first | (go_at_call 16; refine HD.out.mono ?_; rintro e w1 ⟨rfl, rfl⟩) | go_in)
            go_ret
            exact ⟨rfl, 0, rfl⟩
        · rw [if_neg (fun h => c4 h.2)]
          have c3' : ¬ (zs.length : Int) < 1 := by omega
          have c4' : (8 : Int) < (zs.length : Int) := by omega
          go_enter Try.func45, Try.ntmps45
          go_wp2
          go_ret
          exact ⟨rfl, 0, rfl⟩
      · rw [if_neg (fun h => c3 h.1)]
        have c3' : (zs.length : Int) < 1 := by omega
        go_enter Try.func45, Try.ntmps45
        go_wp2
        go_ret
        exact ⟨rfl, 0, rfl⟩
    · rw [if_neg (fun h => c2 h.2)]
      go_enter Try.func45, Try.ntmps45
      go_wp2
      go_ret
      exact ⟨rfl, 0, rfl⟩
  · rw [if_neg (fun h => c1 h.1)]
    go_enter Try.func45, Try.ntmps45
    go_wp2
    go_ret
    exact ⟨rfl, 0, rfl⟩

set_option maxHeartbeats 800000 in
theorem implOne_any (d : Int) (a : Option Addr) (c : Nat) (zs : List Int) (w : World) (h : Reads .u8 w a zs) (hu : U8 zs) (hl : zs.length ≤ 1048576) :
    Calls Try.prog 40 #[.agg #[.int .i64 d, .slice a zs.length c]] w fun e w' => e = .returned (.int .i64 (oneFault d zs)) ∧ Below w.heap.size w w' := by
  have HR := hide h
  have HU := hide hu
  clear h hu
  unfold oneFault
  by_cases c1 : 0 ≤ d
  · by_cases c2 : d ≤ 4294967295
    · rw [if_pos ⟨c1, c2⟩]
      by_cases c3 : 1 ≤ zs.length
      · by_cases c4 : zs.length ≤ 8
        · rw [if_pos ⟨c3, c4⟩]
          have c3' : ¬ (zs.length : Int) < 1 := by omega
          have c4' : ¬ (8 : Int) < (zs.length : Int) := by omega
          have HD := hide (fun u hr => implDigestOf_any a c zs u hr HU.out hl)
          generalize digest zs = g at HD ⊢
          have HR1 := hide (HR.out.below (below_alloc w (.cells #[.int .i64 d, .slice a zs.length c] 53)))
          have HB1 := hide (below_alloc w (.cells #[.int .i64 d, .slice a zs.length c] 53))
          by_cases c5 : g = d
          · have c5' : (g != d) = false := by simp [c5]
            rw [if_pos c5]
            clear c5
            go_enter Try.func40, Try.ntmps40
            go_wp2
            go_quiet ((go_at_call 11; exact Calls.quiet_of ((HD.out _ (show Reads .u8 (World.drewN (w.alloc (.cells #[.int .i64 d, .slice a zs.length c] 53)) _) a zs from HR1.out)).mono (fun e w' ⟨he, hw⟩ => ⟨he, 0, hw⟩))))
            go_wp2
            go_ret
            exact ⟨rfl, below_drewN HB1.out _⟩
          · have c5' : (g != d) = true := by simp [c5]
            rw [if_neg c5]
            clear c5
            go_enter Try.func40, Try.ntmps40
            go_wp2
            go_quiet ((go_at_call 11; exact Calls.quiet_of ((HD.out _ (show Reads .u8 (World.drewN (w.alloc (.cells #[.int .i64 d, .slice a zs.length c] 53)) _) a zs from HR1.out)).mono (fun e w' ⟨he, hw⟩ => ⟨he, 0, hw⟩))))
            go_wp2
            go_ret
            exact ⟨rfl, below_drewN HB1.out _⟩
        · rw [if_neg (fun h => c4 h.2)]
          have c3' : ¬ (zs.length : Int) < 1 := by omega
          have c4' : (8 : Int) < (zs.length : Int) := by omega
          go_enter Try.func40, Try.ntmps40
          go_wp2
          go_ret
          exact ⟨rfl, below_alloc _ _⟩
      · rw [if_neg (fun h => c3 h.1)]
        have c3' : (zs.length : Int) < 1 := by omega
        go_enter Try.func40, Try.ntmps40
        go_wp2
        go_ret
        exact ⟨rfl, below_alloc _ _⟩
    · rw [if_neg (fun h => c2 h.2)]
      go_enter Try.func40, Try.ntmps40
      go_wp2
      go_ret
      exact ⟨rfl, below_alloc _ _⟩
  · rw [if_neg (fun h => c1 h.1)]
    go_enter Try.func40, Try.ntmps40
    go_wp2
    go_ret
    exact ⟨rfl, below_alloc _ _⟩

theorem atFault_one {D : Nat → Int} {P : Nat → List Int} {k : Nat} {q : Int} (h : oneFault (D k) (P k) = q) (hq : q ≠ 0) : atFault D P k = some q := by
  unfold atFault; rw [h, if_pos hq]
theorem atFault_first {D : Nat → Int} {P : Nat → List Int} (h : oneFault (D 0) (P 0) = 0) : atFault D P 0 = none := by
  unfold atFault; rw [h, if_neg (by simp), if_neg (by simp)]
theorem atFault_form {D : Nat → Int} {P : Nat → List Int} {k : Nat} (h : oneFault (D (k + 1)) (P (k + 1)) = 0) (hd : D (k + 1) ≤ D k) : atFault D P (k + 1) = some 1 := by
  unfold atFault; rw [h, if_neg (by simp), if_pos ⟨by omega, by simpa using hd⟩]
theorem atFault_none {D : Nat → Int} {P : Nat → List Int} {k : Nat} (h : oneFault (D (k + 1)) (P (k + 1)) = 0) (hd : ¬ D (k + 1) ≤ D k) : atFault D P (k + 1) = none := by
  unfold atFault; rw [h, if_neg (by simp), if_neg (fun h => hd (by simpa using h.2))]

set_option maxHeartbeats 1600000 in
theorem specFault_any (a : Option Addr) (c n : Nat) (D : Nat → Int) (P : Nat → List Int) (w : World) (h : RdC w a D P n) (hn : n ≤ 1048576) (hP : ∀ i, i < n → U8 (P i) ∧ (P i).length ≤ 1048576) :
    Calls Try.prog 44 #[.slice a n c] w fun e w' => e = .returned (.int .i64 (fault D P n)) ∧ Below w.heap.size w w' := by
  have HA := hide h
  have HP := hide hP
  clear h hP
  by_cases hbig : 40 < n
  · have hb : (40 : Int) < (n : Int) := by omega
    have hf : fault D P n = 2 := by simp [fault, hbig]
    rw [hf]
    go_enter Try.func44, Try.ntmps44
    go_wp2
    go_ret
    exact ⟨rfl, Below.refl _ _⟩
  · have hb : ¬ (40 : Int) < (n : Int) := by omega
    have HF : Hid (fault D P n = firstBad (atFault D P) 0 (n - 0)) := by simp [fault, hbig, Hid]
    generalize hfl : fault D P n = F at HF ⊢
    clear hfl
    go_enter Try.func44, Try.ntmps44
    go_wp2
    go_loopw [3, 4] (fun i _ wr => ∃ k : Nat, k ≤ n ∧ i = .int .i64 k ∧ F = firstBad (atFault D P) k (n - k) ∧ Below w.heap.size w wr) (fun i _ _ => n - (intOf i).toNat)
    case atStart => exact ⟨0, Nat.zero_le _, rfl, HF.out, Below.refl _ _⟩
    case round =>
      obtain ⟨k, hk, rfl, hF, hbel⟩ := hrel
      have HF := hide hF
      have HW := hide hbel
      clear hF hbel
      by_cases hlt : k < n
      · obtain ⟨b1, o1, A1, C1, rfl, hb1, hc1⟩ := (HA.out.below HW.out) (by omega)
        obtain ⟨c1, e1, r1⟩ := hc1 k hlt
        obtain ⟨hu, hp⟩ := HP.out k hlt
        generalize A1 k = a1 at e1 r1
        generalize C1 k = d1 at e1
        have R1 := hide r1
        have U1 := hide hu
        have HC := hide hc1
        clear hc1 r1 hu
        generalize hq : oneFault (D k) (P k) = q
        have hone := hide (fun (m : Nat) => by have := specOne_any (D k) a1 d1 (P k) (wr.drewN m) R1.out U1.out hp; rwa [hq] at this)
        have HQ := hide hq
        clear hq
        generalize hxs : P k = xs at *
        generalize hdd : D k = dd at *
        have HX := hide (And.intro hxs hdd)
        clear hxs hdd
        by_cases hz : q = 0
        · have hz' : (q != 0) = false := by simp [hz]
          have HZ := hide hz
          clear hz
          cases k with
          | zero =>
            simp only [Nat.zero_mul, Nat.add_zero] at c1 e1
            go_wp2
            go_quiet ((go_at_call 45; exact Calls.quiet_of (hone.out _)))
            go_wp2
            go_quiet (fail)
            go_wp2
            go_roundw
            case rel => exact ⟨1, by omega, by go_num, by rw [HF.out]; exact firstBad_miss hlt (atFault_first (by have := HX.out; rw [this.1, this.2, HQ.out]; exact HZ.out)), below_drewN HW.out _⟩
            case measure => simp [intOf]; omega
          | succ k =>
            have hg : (0 : Int) < ((k + 1 : Nat) : Int) := by omega
            obtain ⟨c0, _, _⟩ := HC.out k (by omega)
            generalize hd0 : D k = d0 at c0
            have HD0 := hide hd0
            clear hd0
            by_cases hle : dd ≤ d0
            · go_wp2
              go_quiet ((go_at_call 45; exact Calls.quiet_of (hone.out _)))
              go_wp2
              go_quiet (fail)
              go_wp2
              go_ret
              exact ⟨ret_int (by rw [HF.out]; exact (firstBad_hit hlt (atFault_form (by have := HX.out; rw [this.1, this.2, HQ.out]; exact HZ.out) (by rw [HX.out.2, HD0.out]; omega))).symm), below_drewN (below_drewN HW.out _) _⟩
            · go_wp2
              go_quiet ((go_at_call 45; exact Calls.quiet_of (hone.out _)))
              go_wp2
              go_quiet (fail)
              go_wp2
              go_roundw
              case rel => exact ⟨k + 1 + 1, by omega, by go_num, by rw [HF.out]; exact firstBad_miss hlt (atFault_none (by have := HX.out; rw [this.1, this.2, HQ.out]; exact HZ.out) (by rw [HX.out.2, HD0.out]; omega)), below_drewN HW.out _⟩
              case measure => simp [intOf]; omega
        · have hz' : (q != 0) = true := by simp [hz]
          go_wp2
          go_quiet ((go_at_call 45; exact Calls.quiet_of (hone.out _)))
          go_wp2
          go_ret
          exact ⟨ret_int (by rw [HF.out]; exact (firstBad_hit hlt (atFault_one (by rw [HX.out.1, HX.out.2]; exact HQ.out) hz)).symm), below_drewN HW.out _⟩
      · go_wp2
        go_ret
        exact ⟨ret_int (by rw [HF.out]; exact (firstBad_end (by omega)).symm), HW.out⟩

set_option maxHeartbeats 1600000 in
theorem implFault_any (a : Option Addr) (c n : Nat) (D : Nat → Int) (P : Nat → List Int) (w : World) (h : RdC w a D P n) (hn : n ≤ 1048576) (hP : ∀ i, i < n → U8 (P i) ∧ (P i).length ≤ 1048576) :
    Calls Try.prog 22 #[.slice a n c] w fun e w' => e = .returned (.int .i64 (fault D P n)) ∧ Below w.heap.size w w' := by
  have HA := hide h
  have HP := hide hP
  clear h hP
  by_cases hbig : 40 < n
  · have hb : (40 : Int) < (n : Int) := by omega
    have hf : fault D P n = 2 := by simp [fault, hbig]
    rw [hf]
    go_enter Try.func22, Try.ntmps22
    go_wp2
    go_ret
    exact ⟨rfl, Below.refl _ _⟩
  · have hb : ¬ (40 : Int) < (n : Int) := by omega
    have HF : Hid (fault D P n = firstBad (atFault D P) 0 (n - 0)) := by simp [fault, hbig, Hid]
    generalize hfl : fault D P n = F at HF ⊢
    clear hfl
    go_enter Try.func22, Try.ntmps22
    go_wp2
    go_loopw [3, 4, 5, 11] (fun _ _ _ i wr => ∃ k : Nat, k ≤ n ∧ i = .int .i64 k ∧ F = firstBad (atFault D P) k (n - k) ∧ Below w.heap.size w wr) (fun _ _ _ i _ => n - (intOf i).toNat)
    case atStart => exact ⟨0, Nat.zero_le _, rfl, HF.out, Below.refl _ _⟩
    case round =>
      obtain ⟨k, hk, rfl, hF, hbel⟩ := hrel
      have HF := hide hF
      have HW := hide hbel
      clear hF hbel
      by_cases hlt : k < n
      · obtain ⟨b1, o1, A1, C1, rfl, hb1, hc1⟩ := (HA.out.below HW.out) (by omega)
        obtain ⟨c1, e1, r1⟩ := hc1 k hlt
        obtain ⟨hu, hp⟩ := HP.out k hlt
        generalize A1 k = a1 at e1 r1
        generalize C1 k = d1 at e1
        have R1 := hide r1
        have U1 := hide hu
        have HC := hide hc1
        clear hc1 r1 hu
        generalize hq : oneFault (D k) (P k) = q
        have HQ := hide hq
        clear hq
        generalize hxs : P k = xs at *
        generalize hdd : D k = dd at *
        have HX := hide (And.intro hxs hdd)
        clear hxs hdd
        have hone := implOne_any dd a1 d1 xs (wr.alloc (.cells #[.int .i64 dd, .slice a1 xs.length d1] 53)) (R1.out.below (below_alloc _ _)) U1.out hp
        rw [HQ.out] at hone
        have HO := hide hone
        clear hone
        go_wp2_with fail
        refine HO.out.mono ?_
        rintro e w2 ⟨rfl, b2⟩
        obtain ⟨t0, t1⟩ := (Two.new wr (.int .i64 dd) (.slice a1 xs.length d1) 53).below b2
        have B2 := hide (below_next (below_alloc _ _) b2)
        have BW := hide (below_next HW.out B2.out)
        clear b2 HO
        by_cases hz : q = 0
        · have hz' : (q != 0) = false := by simp [hz]
          have HZ := hide hz
          clear hz
          cases k with
          | zero =>
            go_wp2
            go_quiet (fail)
            go_wp2
            go_roundw
            case rel => exact ⟨1, by omega, by go_num, by rw [HF.out]; exact firstBad_miss hlt (atFault_first (by have := HX.out; rw [this.1, this.2, HQ.out]; exact HZ.out)), below_drewN BW.out _⟩
            case measure => simp [intOf]; omega
          | succ k =>
            have hg : (0 : Int) < ((k + 1 : Nat) : Int) := by omega
            obtain ⟨c0, _, _⟩ := HC.out k (by omega)
            have c0' := (B2.out.cell (p := ⟨b1, o1 + k * 2, none⟩) hb1).trans c0
            generalize hd0 : D k = d0 at c0'
            have HD0 := hide hd0
            clear hd0 c0
            by_cases hle : dd ≤ d0
            · go_wp2
              go_quiet (fail)
              go_wp2
              go_ret
              exact ⟨ret_int (by rw [HF.out]; exact (firstBad_hit hlt (atFault_form (by have := HX.out; rw [this.1, this.2, HQ.out]; exact HZ.out) (by rw [HX.out.2, HD0.out]; exact hle))).symm), below_drewN BW.out _⟩
            · go_wp2
              go_quiet (fail)
              go_wp2
              go_roundw
              case rel => exact ⟨k + 1 + 1, by omega, by go_num, by rw [HF.out]; exact firstBad_miss hlt (atFault_none (by have := HX.out; rw [this.1, this.2, HQ.out]; exact HZ.out) (by rw [HX.out.2, HD0.out]; omega)), below_drewN BW.out _⟩
              case measure => simp [intOf]; omega
        · have hz' : (q != 0) = true := by simp [hz]
          go_wp2
          go_ret
          exact ⟨ret_int (by rw [HF.out]; exact (firstBad_hit hlt (atFault_one (by rw [HX.out.1, HX.out.2]; exact HQ.out) hz)).symm), BW.out⟩
      · go_wp2
        go_ret
        exact ⟨ret_int (by rw [HF.out]; exact (firstBad_end (by omega)).symm), HW.out⟩


end Go.Proofs.Ytdebojhginiihaa
