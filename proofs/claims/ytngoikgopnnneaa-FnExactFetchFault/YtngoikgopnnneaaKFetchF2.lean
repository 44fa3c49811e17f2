/-
  Texts put together: Fault FaultC Store FetL StoreC Ints Asked Missing FetM.
-/
import Derived.Test.YtngoikgopnnneaaKFetchF1
import Derived.Maps.OwnSet
import Derived.Lib.SliceRun
namespace Go.Proofs.Ytngoikgopnnneaa
open Go.RowKit
set_option linter.unusedVariables false

def oneFault (d : Int) (zs : List Int) : Int :=
  if 0 ≤ d ∧ d ≤ 4294967295 then (if 1 ≤ zs.length ∧ zs.length ≤ 8 then (if digest zs = d then 0 else 6) else 2) else 3
def atFault (D : Nat → Int) (P : Nat → List Int) (i : Nat) : Option Int :=
  if oneFault (D i) (P i) ≠ 0 then some (oneFault (D i) (P i)) else if 0 < i ∧ D i ≤ D (i - 1) then some 1 else none
def firstBad (f : Nat → Option Int) : Nat → Nat → Int
  | _, 0 => 0
  | i, m + 1 => match f i with | some c => c | none => firstBad f (i + 1) m
def fault (D : Nat → Int) (P : Nat → List Int) (n : Nat) : Int := if 40 < n then 2 else firstBad (atFault D P) 0 n

theorem firstBad_hit {f : Nat → Option Int} {k n : Nat} {c : Int} (hk : k < n) (h : f k = some c) : firstBad f k (n - k) = c := by
  obtain ⟨m, hm⟩ : ∃ m, n - k = m + 1 := ⟨n - k - 1, by omega⟩
  rw [hm]; simp [firstBad, h]
theorem firstBad_miss {f : Nat → Option Int} {k n : Nat} (hk : k < n) (h : f k = none) : firstBad f k (n - k) = firstBad f (k + 1) (n - (k + 1)) := by
  obtain ⟨m, hm⟩ : ∃ m, n - k = m + 1 := ⟨n - k - 1, by omega⟩
  have : n - (k + 1) = m := by omega
  rw [hm, this]; simp [firstBad, h]
theorem firstBad_end {f : Nat → Option Int} {k n : Nat} (hk : n ≤ k) : firstBad f k (n - k) = 0 := by
  have : n - k = 0 := by omega
  rw [this]; rfl
theorem firstBad_none {f : Nat → Option Int} (hf : ∀ j c, f j = some c → c ≠ 0) : ∀ (m i : Nat), firstBad f i m = 0 → ∀ j, i ≤ j → j < i + m → f j = none
  | 0, i, _, j, h1, h2 => by omega
  | m + 1, i, h, j, h1, h2 => by
    simp only [firstBad] at h
    cases hi : f i with
    | some c => rw [hi] at h; exact absurd h (hf i c hi)
    | none =>
      rw [hi] at h
      by_cases e : j = i
      · subst e; exact hi
      · exact firstBad_none hf m (i + 1) h j (by omega) (by omega)

theorem atFault_ne (D : Nat → Int) (P : Nat → List Int) (j : Nat) (c : Int) (h : atFault D P j = some c) : c ≠ 0 := by
  unfold atFault at h
  split at h
  · rename_i h1; cases h; exact h1
  · split at h
    · cases h; decide
    · cases h
theorem oneFault_zero {d : Int} {zs : List Int} (h : oneFault d zs = 0) : (0 ≤ d ∧ d ≤ 4294967295) ∧ (1 ≤ zs.length ∧ zs.length ≤ 8) ∧ digest zs = d := by
  unfold oneFault at h
  split at h
  · rename_i h1
    split at h
    · rename_i h2
      split at h
      · rename_i h3; exact ⟨h1, h2, h3⟩
      · omega
    · omega
  · omega
structure Right (D : Nat → Int) (P : Nat → List Int) (n : Nat) : Prop where
  many : n ≤ 40
  range : ∀ i, i < n → 0 ≤ D i ∧ D i ≤ 4294967295
  len : ∀ i, i < n → 1 ≤ (P i).length ∧ (P i).length ≤ 8
  sum : ∀ i, i < n → digest (P i) = D i
  up : ∀ i, i + 1 < n → D i < D (i + 1)
theorem fault_zero {D : Nat → Int} {P : Nat → List Int} {n : Nat} (h : fault D P n = 0) : Right D P n := by
  unfold fault at h
  split at h
  · omega
  · rename_i hn
    have hz := firstBad_none (atFault_ne D P) n 0 h
    have hone : ∀ i, i < n → oneFault (D i) (P i) = 0 ∧ ¬ (0 < i ∧ D i ≤ D (i - 1)) := fun i hi => by
      have := hz i (Nat.zero_le _) (by omega)
      unfold atFault at this
      split at this
      · cases this
      · rename_i h1
        split at this
        · cases this
        · rename_i h2; exact ⟨Decidable.not_not.1 h1, h2⟩
    refine ⟨by omega, fun i hi => (oneFault_zero (hone i hi).1).1, fun i hi => (oneFault_zero (hone i hi).1).2.1, fun i hi => (oneFault_zero (hone i hi).1).2.2, fun i hi => ?_⟩
    have := (hone (i + 1) hi).2
    simp only [Nat.add_sub_cancel] at this
    omega
end Go.Proofs.Ytngoikgopnnneaa

namespace Go.Proofs.Ytngoikgopnnneaa
open Go.RowKit
set_option linter.unusedVariables false

set_option maxHeartbeats 400000 in
theorem specOne_any (d : Int) (a : Option Addr) (c : Nat) (zs : List Int) (w : World) (h : Reads .u8 w a zs) (hu : U8 zs) (hl : zs.length ≤ 1048576) :
    Calls Try.prog 37 #[.int .i64 d, .slice a zs.length c] w fun e w' => e = .returned (.int .i64 (oneFault d zs)) ∧ ∃ n, w' = w.drewN n := by
  have HR := hide h
  have HU := hide hu
  clear h hu
  unfold oneFault
  by_cases c1 : 0 ≤ d
  · by_cases c2 : d ≤ 4294967295
    · rw [if_pos ⟨c1, c2⟩]
      by_cases c3 : 1 ≤ zs.length
      · by_cases c4 : zs.length ≤ 8
        · rw [if_pos ⟨c3, c4⟩]
          have c3' : ¬ (zs.length : Int) < 1 := by omega
          have c4' : ¬ (8 : Int) < (zs.length : Int) := by omega
          have HD := hide (specDigestOf_any a c zs w HR.out HU.out hl)
          generalize digest zs = g at HD ⊢
          by_cases c5 : g = d
          · have c5' : (g != d) = false := by simp [c5]
            rw [if_pos c5]
            clear c5
            go_enter Try.func37, Try.ntmps37
            go_wp2_with (first | (go_at_call 45; refine HD.out.mono ?_; rintro e w1 ⟨rfl, rfl⟩) | go_in)
            go_ret
            exact ⟨rfl, 0, rfl⟩
          · have c5' : (g != d) = true := by simp [c5]
            rw [if_neg c5]
            clear c5
            go_enter Try.func37, Try.ntmps37
            go_wp2_with (first | (go_at_call 45; refine HD.out.mono ?_; rintro e w1 ⟨rfl, rfl⟩) | go_in)
            go_ret
            exact ⟨rfl, 0, rfl⟩
        · rw [if_neg (fun h => c4 h.2)]
          have c3' : ¬ (zs.length : Int) < 1 := by omega
          have c4' : (8 : Int) < (zs.length : Int) := by omega
          go_enter Try.func37, Try.ntmps37
          go_wp2
          go_ret
          exact ⟨rfl, 0, rfl⟩
      · rw [if_neg (fun h => c3 h.1)]
        have c3' : (zs.length : Int) < 1 := by omega
        go_enter Try.func37, Try.ntmps37
        go_wp2
        go_ret
        exact ⟨rfl, 0, rfl⟩
    · rw [if_neg (fun h => c2 h.2)]
      go_enter Try.func37, Try.ntmps37
      go_wp2
      go_ret
      exact ⟨rfl, 0, rfl⟩
  · rw [if_neg (fun h => c1 h.1)]
    go_enter Try.func37, Try.ntmps37
    go_wp2
    go_ret
    exact ⟨rfl, 0, rfl⟩

set_option maxHeartbeats 800000 in
theorem implOne_any (d : Int) (a : Option Addr) (c : Nat) (zs : List Int) (w : World) (h : Reads .u8 w a zs) (hu : U8 zs) (hl : zs.length ≤ 1048576) :
    Calls Try.prog 30 #[.agg #[.int .i64 d, .slice a zs.length c]] w fun e w' => e = .returned (.int .i64 (oneFault d zs)) ∧ Below w.heap.size w w' := by
  have HR := hide h
  have HU := hide hu
  clear h hu
  unfold oneFault
  by_cases c1 : 0 ≤ d
  · by_cases c2 : d ≤ 4294967295
    · rw [if_pos ⟨c1, c2⟩]
      by_cases c3 : 1 ≤ zs.length
      · by_cases c4 : zs.length ≤ 8
        · rw [if_pos ⟨c3, c4⟩]
          have c3' : ¬ (zs.length : Int) < 1 := by omega
          have c4' : ¬ (8 : Int) < (zs.length : Int) := by omega
          have HD := hide (fun u hr => implDigestOf_any a c zs u hr HU.out hl)
          generalize digest zs = g at HD ⊢
          have HR1 := hide (HR.out.below (below_alloc w (.cells #[.int .i64 d, .slice a zs.length c] 59)))
          have HB1 := hide (below_alloc w (.cells #[.int .i64 d, .slice a zs.length c] 59))
          by_cases c5 : g = d
          · have c5' : (g != d) = false := by simp [c5]
            rw [if_pos c5]
            clear c5
            go_enter Try.func30, Try.ntmps30
            go_wp2
            go_quiet ((go_at_call 41; exact Calls.quiet_of ((HD.out _ (show Reads .u8 (World.drewN (w.alloc (.cells #[.int .i64 d, .slice a zs.length c] 59)) _) a zs from HR1.out)).mono (fun e w' ⟨he, hw⟩ => ⟨he, 0, hw⟩))))
            go_wp2
            go_ret
            exact ⟨rfl, below_drewN HB1.out _⟩
          · have c5' : (g != d) = true := by simp [c5]
            rw [if_neg c5]
            clear c5
            go_enter Try.func30, Try.ntmps30
            go_wp2
            go_quiet ((go_at_call 41; exact Calls.quiet_of ((HD.out _ (show Reads .u8 (World.drewN (w.alloc (.cells #[.int .i64 d, .slice a zs.length c] 59)) _) a zs from HR1.out)).mono (fun e w' ⟨he, hw⟩ => ⟨he, 0, hw⟩))))
            go_wp2
            go_ret
            exact ⟨rfl, below_drewN HB1.out _⟩
        · rw [if_neg (fun h => c4 h.2)]
          have c3' : ¬ (zs.length : Int) < 1 := by omega
          have c4' : (8 : Int) < (zs.length : Int) := by omega
          go_enter Try.func30, Try.ntmps30
          go_wp2
          go_ret
          exact ⟨rfl, below_alloc _ _⟩
      · rw [if_neg (fun h => c3 h.1)]
        have c3' : (zs.length : Int) < 1 := by omega
        go_enter Try.func30, Try.ntmps30
        go_wp2
        go_ret
        exact ⟨rfl, below_alloc _ _⟩
    · rw [if_neg (fun h => c2 h.2)]
      go_enter Try.func30, Try.ntmps30
      go_wp2
      go_ret
      exact ⟨rfl, below_alloc _ _⟩
  · rw [if_neg (fun h => c1 h.1)]
    go_enter Try.func30, Try.ntmps30
    go_wp2
    go_ret
    exact ⟨rfl, below_alloc _ _⟩

theorem atFault_one {D : Nat → Int} {P : Nat → List Int} {k : Nat} {q : Int} (h : oneFault (D k) (P k) = q) (hq : q ≠ 0) : atFault D P k = some q := by
  unfold atFault; rw [h, if_pos hq]
theorem atFault_first {D : Nat → Int} {P : Nat → List Int} (h : oneFault (D 0) (P 0) = 0) : atFault D P 0 = none := by
  unfold atFault; rw [h, if_neg (by simp), if_neg (by simp)]
theorem atFault_form {D : Nat → Int} {P : Nat → List Int} {k : Nat} (h : oneFault (D (k + 1)) (P (k + 1)) = 0) (hd : D (k + 1) ≤ D k) : atFault D P (k + 1) = some 1 := by
  unfold atFault; rw [h, if_neg (by simp), if_pos ⟨by omega, by simpa using hd⟩]
theorem atFault_none {D : Nat → Int} {P : Nat → List Int} {k : Nat} (h : oneFault (D (k + 1)) (P (k + 1)) = 0) (hd : ¬ D (k + 1) ≤ D k) : atFault D P (k + 1) = none := by
  unfold atFault; rw [h, if_neg (by simp), if_neg (fun h => hd (by simpa using h.2))]

set_option maxHeartbeats 1600000 in
theorem specFault_any (a : Option Addr) (c n : Nat) (D : Nat → Int) (P : Nat → List Int) (w : World) (h : RdC w a D P n) (hn : n ≤ 1048576) (hP : ∀ i, i < n → U8 (P i) ∧ (P i).length ≤ 1048576) :
    Calls Try.prog 23 #[.slice a n c] w fun e w' => e = .returned (.int .i64 (fault D P n)) ∧ Below w.heap.size w w' := by
  have HA := hide h
  have HP := hide hP
  clear h hP
  by_cases hbig : 40 < n
  · have hb : (40 : Int) < (n : Int) := by omega
    have hf : fault D P n = 2 := by simp [fault, hbig]
    rw [hf]
    go_enter Try.func23, Try.ntmps23
    go_wp2
    go_ret
    exact ⟨rfl, Below.refl _ _⟩
  · have hb : ¬ (40 : Int) < (n : Int) := by omega
    have HF : Hid (fault D P n = firstBad (atFault D P) 0 (n - 0)) := by simp [fault, hbig, Hid]
    generalize hfl : fault D P n = F at HF ⊢
    clear hfl
    go_enter Try.func23, Try.ntmps23
    go_wp2
    go_loopw [3, 4] (fun i _ wr => ∃ k : Nat, k ≤ n ∧ i = .int .i64 k ∧ F = firstBad (atFault D P) k (n - k) ∧ Below w.heap.size w wr) (fun i _ _ => n - (intOf i).toNat)
    case atStart => exact ⟨0, Nat.zero_le _, rfl, HF.out, Below.refl _ _⟩
    case round =>
      obtain ⟨k, hk, rfl, hF, hbel⟩ := hrel
      have HF := hide hF
      have HW := hide hbel
      clear hF hbel
      by_cases hlt : k < n
      · obtain ⟨b1, o1, A1, C1, rfl, hb1, hc1⟩ := (HA.out.below HW.out) (by omega)
        obtain ⟨c1, e1, r1⟩ := hc1 k hlt
        obtain ⟨hu, hp⟩ := HP.out k hlt
        generalize A1 k = a1 at e1 r1
        generalize C1 k = d1 at e1
        have R1 := hide r1
        have U1 := hide hu
        have HC := hide hc1
        clear hc1 r1 hu
        generalize hq : oneFault (D k) (P k) = q
        have hone := hide (fun (m : Nat) => by have := specOne_any (D k) a1 d1 (P k) (wr.drewN m) R1.out U1.out hp; rwa [hq] at this)
        have HQ := hide hq
        clear hq
        generalize hxs : P k = xs at *
        generalize hdd : D k = dd at *
        have HX := hide (And.intro hxs hdd)
        clear hxs hdd
        by_cases hz : q = 0
        · have hz' : (q != 0) = false := by simp [hz]
          have HZ := hide hz
          clear hz
          cases k with
          | zero =>
            simp only [Nat.zero_mul, Nat.add_zero] at c1 e1
            go_wp2
            go_quiet ((go_at_call 37; exact Calls.quiet_of (hone.out _)))
            go_wp2
            go_quiet (fail)
            go_wp2
            go_roundw
            case rel => exact ⟨1, by omega, by go_num, by rw [HF.out]; exact firstBad_miss hlt (atFault_first (by have := HX.out; rw [this.1, this.2, HQ.out]; exact HZ.out)), below_drewN HW.out _⟩
            case measure => simp [intOf]; omega
          | succ k =>
            have hg : (0 : Int) < ((k + 1 : Nat) : Int) := by omega
            obtain ⟨c0, _, _⟩ := HC.out k (by omega)
            generalize hd0 : D k = d0 at c0
            have HD0 := hide hd0
            clear hd0
            by_cases hle : dd ≤ d0
            · go_wp2
              go_quiet ((go_at_call 37; exact Calls.quiet_of (hone.out _)))
              go_wp2
              go_quiet (fail)
              go_wp2
              go_ret
              exact ⟨ret_int (by rw [HF.out]; exact (firstBad_hit hlt (atFault_form (by have := HX.out; rw [this.1, this.2, HQ.out]; exact HZ.out) (by rw [HX.out.2, HD0.out]; omega))).symm), below_drewN (below_drewN HW.out _) _⟩
            · go_wp2
              go_quiet ((go_at_call 37; exact Calls.quiet_of (hone.out _)))
              go_wp2
              go_quiet (fail)
              go_wp2
              go_roundw
              case rel => exact ⟨k + 1 + 1, by omega, by go_num, by rw [HF.out]; exact firstBad_miss hlt (atFault_none (by have := HX.out; rw [this.1, this.2, HQ.out]; exact HZ.out) (by rw [HX.out.2, HD0.out]; omega)), below_drewN HW.out _⟩
              case measure => simp [intOf]; omega
        · have hz' : (q != 0) = true := by simp [hz]
          go_wp2
          go_quiet ((go_at_call 37; exact Calls.quiet_of (hone.out _)))
          go_wp2
          go_ret
          exact ⟨ret_int (by rw [HF.out]; exact (firstBad_hit hlt (atFault_one (by rw [HX.out.1, HX.out.2]; exact HQ.out) hz)).symm), below_drewN HW.out _⟩
      · go_wp2
        go_ret
        exact ⟨ret_int (by rw [HF.out]; exact (firstBad_end (by omega)).symm), HW.out⟩

set_option maxHeartbeats 1600000 in
theorem implFault_any (a : Option Addr) (c n : Nat) (D : Nat → Int) (P : Nat → List Int) (w : World) (h : RdC w a D P n) (hn : n ≤ 1048576) (hP : ∀ i, i < n → U8 (P i) ∧ (P i).length ≤ 1048576) :
    Calls Try.prog 16 #[.slice a n c] w fun e w' => e = .returned (.int .i64 (fault D P n)) ∧ Below w.heap.size w w' := by
  have HA := hide h
  have HP := hide hP
  clear h hP
  by_cases hbig : 40 < n
  · have hb : (40 : Int) < (n : Int) := by omega
    have hf : fault D P n = 2 := by simp [fault, hbig]
    rw [hf]
    go_enter Try.func16, Try.ntmps16
    go_wp2
    go_ret
    exact ⟨rfl, Below.refl _ _⟩
  · have hb : ¬ (40 : Int) < (n : Int) := by omega
    have HF : Hid (fault D P n = firstBad (atFault D P) 0 (n - 0)) := by simp [fault, hbig, Hid]
    generalize hfl : fault D P n = F at HF ⊢
    clear hfl
    go_enter Try.func16, Try.ntmps16
    go_wp2
    go_loopw [3, 4, 5, 11] (fun _ _ _ i wr => ∃ k : Nat, k ≤ n ∧ i = .int .i64 k ∧ F = firstBad (atFault D P) k (n - k) ∧ Below w.heap.size w wr) (fun _ _ _ i _ => n - (intOf i).toNat)
    case atStart => exact ⟨0, Nat.zero_le _, rfl, HF.out, Below.refl _ _⟩
    case round =>
      obtain ⟨k, hk, rfl, hF, hbel⟩ := hrel
      have HF := hide hF
      have HW := hide hbel
      clear hF hbel
      by_cases hlt : k < n
      · obtain ⟨b1, o1, A1, C1, rfl, hb1, hc1⟩ := (HA.out.below HW.out) (by omega)
        obtain ⟨c1, e1, r1⟩ := hc1 k hlt
        obtain ⟨hu, hp⟩ := HP.out k hlt
        generalize A1 k = a1 at e1 r1
        generalize C1 k = d1 at e1
        have R1 := hide r1
        have U1 := hide hu
        have HC := hide hc1
        clear hc1 r1 hu
        generalize hq : oneFault (D k) (P k) = q
        have HQ := hide hq
        clear hq
        generalize hxs : P k = xs at *
        generalize hdd : D k = dd at *
        have HX := hide (And.intro hxs hdd)
        clear hxs hdd
        have hone := implOne_any dd a1 d1 xs (wr.alloc (.cells #[.int .i64 dd, .slice a1 xs.length d1] 59)) (R1.out.below (below_alloc _ _)) U1.out hp
        rw [HQ.out] at hone
        have HO := hide hone
        clear hone
        go_wp2_with fail
        refine HO.out.mono ?_
        rintro e w2 ⟨rfl, b2⟩
        obtain ⟨t0, t1⟩ := (Two.new wr (.int .i64 dd) (.slice a1 xs.length d1) 59).below b2
        have B2 := hide (below_next (below_alloc _ _) b2)
        have BW := hide (below_next HW.out B2.out)
        clear b2 HO
        by_cases hz : q = 0
        · have hz' : (q != 0) = false := by simp [hz]
          have HZ := hide hz
          clear hz
          cases k with
          | zero =>
            go_wp2
            go_quiet (fail)
            go_wp2
            go_roundw
            case rel => exact ⟨1, by omega, by go_num, by rw [HF.out]; exact firstBad_miss hlt (atFault_first (by have := HX.out; rw [this.1, this.2, HQ.out]; exact HZ.out)), below_drewN BW.out _⟩
            case measure => simp [intOf]; omega
          | succ k =>
            have hg : (0 : Int) < ((k + 1 : Nat) : Int) := by omega
            obtain ⟨c0, _, _⟩ := HC.out k (by omega)
            have c0' := (B2.out.cell (p := ⟨b1, o1 + k * 2, none⟩) hb1).trans c0
            generalize hd0 : D k = d0 at c0'
            have HD0 := hide hd0
            clear hd0 c0
            by_cases hle : dd ≤ d0
            · go_wp2
              go_quiet (fail)
              go_wp2
              go_ret
              exact ⟨ret_int (by rw [HF.out]; exact (firstBad_hit hlt (atFault_form (by have := HX.out; rw [this.1, this.2, HQ.out]; exact HZ.out) (by rw [HX.out.2, HD0.out]; exact hle))).symm), below_drewN BW.out _⟩
            · go_wp2
              go_quiet (fail)
              go_wp2
              go_roundw
              case rel => exact ⟨k + 1 + 1, by omega, by go_num, by rw [HF.out]; exact firstBad_miss hlt (atFault_none (by have := HX.out; rw [this.1, this.2, HQ.out]; exact HZ.out) (by rw [HX.out.2, HD0.out]; omega)), below_drewN BW.out _⟩
              case measure => simp [intOf]; omega
        · have hz' : (q != 0) = true := by simp [hz]
          go_wp2
          go_ret
          exact ⟨ret_int (by rw [HF.out]; exact (firstBad_hit hlt (atFault_one (by rw [HX.out.1, HX.out.2]; exact HQ.out) hz)).symm), BW.out⟩
      · go_wp2
        go_ret
        exact ⟨ret_int (by rw [HF.out]; exact (firstBad_end (by omega)).symm), HW.out⟩


end Go.Proofs.Ytngoikgopnnneaa

namespace Go.Proofs.Ytngoikgopnnneaa
open Go.RowKit Go.Maps
set_option linter.unusedVariables false

abbrev Ch := Int × List Int
def lst (D : Nat → Int) (P : Nat → List Int) (n : Nat) : List Ch := (List.range n).map fun i => (D i, P i)
theorem lst_succ (D : Nat → Int) (P : Nat → List Int) (n : Nat) : lst D P (n + 1) = lst D P n ++ [(D n, P n)] := by simp [lst, List.range_succ]
theorem lst_key {D : Nat → Int} {P : Nat → List Int} {n : Nat} {d : Int} : d ∈ (lst D P n).map Prod.fst ↔ ∃ i, i < n ∧ D i = d := by
  simp [lst]

def RV (v : Value) : Option (DataW Value × List MemPlace) := some (.held v, [])
def chv (d : Int) (a : Option Addr) (n c : Nat) : Value := .agg #[.int .i64 d, .slice a n c]

theorem law64 : Keyed Try.prog 2 := int_keyed Try.underlying2
theorem zeroCh (w : World) : (zeroValue 59).run Try.prog w = .ok (.agg #[.int .i64 0, .slice none 0 0]) w := by kernel_rfl
theorem i64_wf {d : Int} (h0 : 0 ≤ d) (h1 : d ≤ 4294967295) : (Lit.int .i64 d).wf = true := by
  simp [Lit.wf, IntKind.min, IntKind.max, IntKind.signed, IntKind.bits]; omega
theorem key64 {d : Int} (h : (Lit.int .i64 d).wf = true) : keyOf Try.prog 2 (.int .i64 d) = some (.int .i64 d) := keyOf_int_mk Try.underlying2 h

def Holds (w : World) (b N : Nat) (L : List Ch) (T : Nat) : Prop :=
  ∃ (Dt : DataW Value) (A : Int → Option Addr) (C : Int → Nat), w.ownsMap Try.prog 2 RV b N Dt ∧ (∀ k, has Dt (.int .i64 k) = decide (k ∈ L.map Prod.fst)) ∧
    (∀ p ∈ L, (∀ z, Dt.atKey (.int .i64 p.1) z = .held (chv p.1 (A p.1) p.2.length (C p.1))) ∧ Reads .u8 w (A p.1) p.2 ∧ ∀ x, A p.1 = some x → x.block < T) ∧ size Dt = L.length ∧ (L.map Prod.fst).Nodup

theorem Holds.lt {w : World} {b N : Nat} {L : List Ch} {T : Nat} (h : Holds w b N L T) : b < w.heap.size := by
  obtain ⟨Dt, A, C, h1, _⟩ := h
  exact h1.lt

theorem ownsMap_kept {S : Nat → Prop} {w w' : World} {b N : Nat} {Dt : DataW Value} (h : w.ownsMap Try.prog 2 RV b N Dt) (hk : Kept S w w') (hb : ¬ S b) : w'.ownsMap Try.prog 2 RV b N Dt := by
  have hlt := h.lt
  obtain ⟨es, clock, hh, r⟩ := h
  exact ⟨es, clock, (hk.block b hlt hb).trans hh, r⟩
theorem ownsMap_cell {w : World} {b N : Nat} {Dt : DataW Value} (h : w.ownsMap Try.prog 2 RV b N Dt) {b' o : Nat} {v : Value} (hc : w.cell? ⟨b', o, none⟩ = some v) : b' ≠ b := by
  obtain ⟨es, clock, hh, r⟩ := h
  intro e
  subst e
  simp [World.cell?, hh] at hc
theorem Reads.far {w : World} {b N : Nat} {Dt : DataW Value} (h : w.ownsMap Try.prog 2 RV b N Dt) {a : Option Addr} {zs : List Int} (hr : Reads .u8 w a zs) : zs ≠ [] → ∀ x, a = some x → x.block ≠ b := by
  intro hz x hx
  obtain ⟨b1, off, e, hb, hc⟩ := hr hz
  subst e
  cases hx
  have h0 : 0 < zs.length := List.length_pos_iff.2 hz
  exact ownsMap_cell h (hc 0 h0)

theorem Holds.kept {S : Nat → Prop} {w w' : World} {b N : Nat} {L : List Ch} {T : Nat} (h : Holds w b N L T) (hk : Kept S w w') (hb : ¬ S b) (hS : ∀ x, S x → T ≤ x) : Holds w' b N L T := by
  obtain ⟨Dt, A, C, h1, h2, h3, h4⟩ := h
  refine ⟨Dt, A, C, ownsMap_kept h1 hk hb, h2, fun p hp => ⟨(h3 p hp).1, (h3 p hp).2.1.kept hk (fun hz x hx hs => ?_), (h3 p hp).2.2⟩, h4⟩
  have h5 := hS _ hs
  have h6 := (h3 p hp).2.2 x hx
  omega
theorem Holds.below {w w' : World} {b N : Nat} {L : List Ch} {T : Nat} (h : Holds w b N L T) (hk : Below w.heap.size w w') : Holds w' b N L T :=
  h.kept (S := fun _ => False) (Kept.of_below hk) id (fun _ h => h.elim)

theorem Kept.of_grown {w w' : World} {b : Nat} (h : w.grownBy w' (some b)) : Kept (fun x => x = b) w w' :=
  ⟨h.os, h.tape, h.output, h.size, fun k hk hn => h.block k hk (fun e => hn (by simpa using e))⟩

theorem Holds.made (w : World) (T : Nat) : Holds (w.alloc (.map #[] 0)) w.heap.size 0 [] T :=
  ⟨.map [], fun _ => none, fun _ => 0, World.ownsMap_made _ _ _ _, fun k => by simp [has], fun p hp => by simp at hp, rfl, List.nodup_nil⟩

theorem isKey64 (d : Int) : WideAt.IsKeyLit (.int .i64 d) := trivial

theorem Holds.put {w : World} {b N : Nat} {L : List Ch} {d : Int} {zs : List Int} {a : Option Addr} {c T : Nat} (h : Holds w b N L T) (hd : d ∉ L.map Prod.fst) (hr : Reads .u8 w a zs) (hT : ∀ x, a = some x → x.block < T) :
    ∃ Dt, w.ownsMap Try.prog 2 RV b N Dt ∧ ∀ w', w'.ownsMap Try.prog 2 RV b (N + 1) (Dt.put (.int .i64 d) (.held (chv d a zs.length c))) → w.grownBy w' (some b) → Holds w' b (N + 1) (L ++ [(d, zs)]) T := by
  obtain ⟨Dt, A, C, h1, h2, h3, h4, h5⟩ := h
  refine ⟨Dt, h1, fun w' ho hg => ?_⟩
  have hk := Kept.of_grown hg
  have hkeep : ∀ {x : Option Addr} {ys : List Int}, Reads .u8 w x ys → Reads .u8 w' x ys := fun hx => hx.kept hk (fun hz y hy e => Reads.far h1 hx hz y hy e)
  have hne : ∀ p ∈ L, p.1 ≠ d := fun p hp e => hd (by rw [← e]; exact List.mem_map_of_mem hp)
  refine ⟨_, fun k => if k = d then a else A k, fun k => if k = d then c else C k, ho, fun k => ?_, fun p hp => ?_, ?_, ?_⟩
  · by_cases e : k = d
    · subst e
      rw [has_put_same h1.isMap (isKey64 _)]
      simp
    · rw [has_put_other (by simpa using e), h2 k]
      simp [e]
  · rcases List.mem_append.1 hp with hp | hp
    · have e := hne p hp
      simp only [if_neg e]
      exact ⟨fun z => by rw [atKey_put_other (by simpa using e)]; exact (h3 p hp).1 z, hkeep (h3 p hp).2.1, (h3 p hp).2.2⟩
    · simp at hp
      subst hp
      simp only [if_true]
      exact ⟨fun z => atKey_put_same h1.isMap (isKey64 _) _ _, hkeep hr, hT⟩
  · rw [size_put (h1.tidy law64), h2 d, h4]
    simp [hd]
  · rw [List.map_append, List.nodup_append]
    refine ⟨h5, by simp, fun x hx y hy => ?_⟩
    simp at hy
    subst hy
    intro e
    subst e
    exact hd hx

theorem Holds.yes {w : World} {b N : Nat} {L : List Ch} {d : Int} {zs : List Int} {T : Nat} (h : Holds w b N L T) (hp : (d, zs) ∈ L) (hw : (Lit.int .i64 d).wf = true) (t : TypeId) (ht : Try.prog.underlying t = some (.map 2 59)) :
    ∃ a c, (∀ k : Bool, (Instr.lookup t (.map (some b)) (.int .i64 d) k).run Try.prog w = .ok (if k then .tuple #[chv d a zs.length c, .bool true] else chv d a zs.length c) w) ∧ Reads .u8 w a zs ∧ ∀ x, a = some x → x.block < T := by
  obtain ⟨Dt, A, C, h1, h2, h3, h4, h5⟩ := h
  have hm : d ∈ L.map Prod.fst := List.mem_map_of_mem (f := Prod.fst) hp
  refine ⟨A d, C d, fun k => ?_, (h3 _ hp).2⟩
  cases k with
  | true =>
    obtain ⟨v, ps, hrun, hv⟩ := h1.look_ok law64 ht (zeroCh w) (zd := .held (.agg #[.int .i64 0, .slice none 0 0])) (zp := []) rfl (key64 hw)
    simp only [RV, Option.some.injEq, Prod.mk.injEq, (h3 _ hp).1] at hv
    have e := hv.1
    simp only [DataW.held.injEq] at e
    rw [hrun, h2 d]
    simp [hm, e]
  | false =>
    obtain ⟨v, ps, hrun, hv⟩ := h1.lookup law64 ht (zeroCh w) (zd := .held (.agg #[.int .i64 0, .slice none 0 0])) (zp := []) rfl (key64 hw)
    simp only [RV, Option.some.injEq, Prod.mk.injEq, (h3 _ hp).1] at hv
    have e := hv.1
    simp only [DataW.held.injEq] at e
    rw [hrun]
    simp [e]
theorem Holds.no {w : World} {b N : Nat} {L : List Ch} {d : Int} {T : Nat} (h : Holds w b N L T) (hp : d ∉ L.map Prod.fst) (hw : (Lit.int .i64 d).wf = true) (t : TypeId) (ht : Try.prog.underlying t = some (.map 2 59)) :
    (Instr.lookup t (.map (some b)) (.int .i64 d) true).run Try.prog w = .ok (.tuple #[.agg #[.int .i64 0, .slice none 0 0], .bool false]) w := by
  obtain ⟨Dt, A, C, h1, h2, h3, h4, h5⟩ := h
  obtain ⟨v, ps, hrun, hv⟩ := h1.look_ok law64 ht (zeroCh w) (zd := .held (.agg #[.int .i64 0, .slice none 0 0])) (zp := []) rfl (key64 hw)
  have hh : has Dt (.int .i64 d) = false := by rw [h2 d]; simpa using hp
  rw [atKey_of_not_has hh] at hv
  simp only [RV, Option.some.injEq, Prod.mk.injEq] at hv
  have e := hv.1
  simp only [DataW.held.injEq] at e
  rw [hrun, hh, e]

theorem wpList_look {P : Program} {w : World} {ops : Array Oper} {rest : List Oper} {o : Oper} {a : Act} {Q : Exit → Act → World → Prop} (hg : o.guard = none) (m x : Operand) (t : TypeId) (c : Bool) (hop : o.op = Op.lookup t m x c)
    (vm vx v : Value) (hm : a.eval m = vm) (hx : a.eval x = vx) (hrun : (Instr.lookup t vm vx c).run P w = .ok v w) (h : wpList P ops Q rest (a.put o.dst v) w) : wpList P ops Q (o :: rest) a w := by
  refine wpList_plain hg fun K' hK' => ?_
  unfold Oper.wp
  simp [execOp, hop, hm, hx, hrun, Result.andThen]
  exact hK' _ _ h

end Go.Proofs.Ytngoikgopnnneaa

namespace Go.Proofs.Ytngoikgopnnneaa
open Go.RowKit
set_option linter.unusedVariables false

abbrev Wn := Int × Int
abbrev okD (d : Int) : Prop := 0 ≤ d ∧ d ≤ 4294967295
def keysC (D : Nat → Int) (n : Nat) : List Int := (List.range n).map D
theorem mem_keysC {D : Nat → Int} {n : Nat} {d : Int} : d ∈ keysC D n ↔ ∃ i, i < n ∧ D i = d := by simp [keysC]
def wFault (W : List Wn) (F C : List Int) (i : Nat) : Option Int :=
  if okD (W.getD i (0, 0)).1 ∧ 0 ≤ (W.getD i (0, 0)).2 ∧ (W.getD i (0, 0)).2 < 3 then
    (if (W.getD i (0, 0)).1 ∈ C ∨ (W.getD i (0, 0)).1 ∈ F ∨ (W.getD i (0, 0)).1 ∈ (W.take i).map Prod.fst then some 7 else none)
  else some 3
def fFault (F C : List Int) (i : Nat) : Option Int :=
  if okD (F.getD i 0) then (if F.getD i 0 ∈ C ∨ F.getD i 0 ∈ F.take i then some 7 else none) else some 3
def listsFault (W : List Wn) (F C : List Int) : Int :=
  if 12 < W.length ∨ 40 < F.length then 2 else
  if firstBad (wFault W F C) 0 W.length ≠ 0 then firstBad (wFault W F C) 0 W.length else firstBad (fFault F C) 0 F.length
def fetFault (W : List Wn) (F : List Int) (D : Nat → Int) (P : Nat → List Int) (n : Nat) : Int :=
  if fault D P n ≠ 0 then fault D P n else listsFault W F (keysC D n)
theorem getD_mem {α : Type} {l : List α} {i : Nat} (x : α) (h : i < l.length) : l.getD i x ∈ l := by
  rw [List.getD_eq_getElem?_getD, List.getElem?_eq_getElem h]; exact List.getElem_mem h
end Go.Proofs.Ytngoikgopnnneaa

namespace Go.Proofs.Ytngoikgopnnneaa
open Go.RowKit Go.Maps
set_option linter.unusedVariables false

theorem Right.inj {D : Nat → Int} {P : Nat → List Int} {n : Nat} (h : Right D P n) : ∀ i j, i < j → j < n → D i < D j := by
  intro i j hij hj
  induction j with
  | zero => omega
  | succ j ih =>
    have h1 := h.up j hj
    by_cases e : i = j
    · subst e; exact h1
    · have := ih (by omega) (by omega)
      omega
theorem Right.new {D : Nat → Int} {P : Nat → List Int} {n k : Nat} (h : Right D P n) (hk : k < n) : D k ∉ (lst D P k).map Prod.fst := by
  rw [lst_key]
  rintro ⟨i, hi, e⟩
  have := h.inj i k hi hk
  omega
theorem Right.wf {D : Nat → Int} {P : Nat → List Int} {n k : Nat} (h : Right D P n) (hk : k < n) : (Lit.int .i64 (D k)).wf = true := i64_wf (h.range k hk).1 (h.range k hk).2

theorem Right.u8len {D : Nat → Int} {P : Nat → List Int} {n i : Nat} (h : Right D P n) (hi : i < n) : 0 < (P i).length ∧ (P i).length ≤ 1048576 := by
  have := h.len i hi; omega

theorem Reads.lt {k : IntKind} {w : World} {a : Option Addr} {zs : List Int} (h : Reads k w a zs) (hz : zs ≠ []) : ∀ x, a = some x → x.block < w.heap.size := by
  intro x hx
  obtain ⟨b, off, e, hb, _⟩ := h hz
  rw [hx] at e
  simp only [Option.some.injEq] at e
  subst e
  exact hb

set_option maxRecDepth 100000 in
set_option maxHeartbeats 1600000 in
theorem mapChunks_any (a : Option Addr) (c n : Nat) (D : Nat → Int) (P : Nat → List Int) (w : World) (h : RdC w a D P n) (hR : Right D P n) :
    Calls Try.prog 31 #[.slice a n c] w fun e w' => ∃ b, e = .returned (.map (some b)) ∧ w.heap.size ≤ b ∧ Holds w' b n (lst D P n) w.heap.size ∧ Below w.heap.size w w' := by
  have HA := hide h
  have HR := hide hR
  have hn := hR.many
  clear h hR
  have hmm : ∀ u : World, (Instr.makeMap 64 (some (.int .i64 (n : Int)))).run Try.prog u = .ok (.map (some u.heap.size)) (u.alloc (.map #[] 0)) := fun u => by simp [Instr.makeMap, asInt, asIntOf, Result.andThen]
  go_enter Try.func31, Try.ntmps31
  go_wp2
  go_loopw [5, 11] (fun _ i wr => ∃ k : Nat, k ≤ n ∧ i = .int .i64 k ∧ Holds wr w.heap.size k (lst D P k) w.heap.size ∧ Below w.heap.size w wr) (fun _ i _ => n - (intOf i).toNat)
  case atStart => exact ⟨0, Nat.zero_le _, rfl, Holds.made w _, below_alloc _ _⟩
  case round =>
    obtain ⟨k, hk, rfl, hH, hbel⟩ := hrel
    have HH := hide hH
    have HW := hide hbel
    clear hH hbel
    by_cases hlt : k < n
    · obtain ⟨b1, o1, A1, C1, rfl, hb1, hc1⟩ := HA.out (by omega)
      obtain ⟨c1, e1, r1⟩ := hc1 k hlt
      have c1 := (HW.out.cell (p := ⟨b1, o1 + k * 2, none⟩) hb1).trans c1
      have e1 := (HW.out.cell (p := ⟨b1, o1 + k * 2 + 1, none⟩) hb1).trans e1
      have hpos := (HR.out.u8len hlt).1
      have hT := r1.lt (by intro e; simp [e] at hpos)
      have r1 := r1.below HW.out
      have hnew := HR.out.new hlt
      have hwf := HR.out.wf hlt
      have HS := hide (lst_succ D P k)
      generalize A1 k = a1 at e1 r1 hT
      generalize C1 k = d1 at e1
      generalize P k = xs at *
      generalize D k = dd at *
      generalize lst D P k = L at *
      obtain ⟨Dt, hown, hput⟩ := (HH.out.below (below_alloc wr (.cells #[.int .i64 dd, .slice a1 xs.length d1] 59))).put (c := d1) hnew (r1.below (below_alloc _ _)) hT
      have HO := hide hown
      have HPt := hide hput
      have HK := hide (key64 hwf)
      clear hc1 r1 hown hput hnew hwf hT hpos
      go_wp2_with (first | (at_mapUpdate; refine wpList_mapUpdate_own _ rfl _ _ _ 64 rfl 2 59 law64 Try.underlying64 RV w.heap.size k Dt rfl HO.out (by unfold maxLen; omega) _ _ _ rfl rfl HK.out (.held (chv dd a1 xs.length d1)) [] rfl ?_; intro w1 hown1 hgrow1; have HH1 := hide (HPt.out w1 hown1 hgrow1); have HG1 := hide hgrow1; clear hown1 hgrow1) | go_in)
      go_roundw
      case rel => exact ⟨k + 1, by omega, by go_num, by rw [HS.out]; exact HH1.out, (below_next HW.out (below_alloc _ _)).trans ((Kept.of_grown HG1.out).below (Nat.le_trans HW.out.size (by simp)) (fun j hj e => by omega))⟩
      case measure => simp [intOf]; omega
    · have hke : k = n := by omega
      subst hke
      go_wp2
      go_ret
      exact ⟨_, rfl, Nat.le_refl _, HH.out, HW.out⟩

set_option maxRecDepth 100000 in
set_option maxHeartbeats 800000 in
theorem l2At_yes (a : Option Addr) (c n i : Nat) (d : Int) (D : Nat → Int) (P : Nat → List Int) (w : World) (h : RdC w a D P n) (hn : n ≤ 1048576) (hi : i < n) (hd : D i = d) (hf : ∀ j, j < i → D j ≠ d) :
    Calls Try.prog 27 #[.slice a n c, .int .i64 d] w fun e w' => e = .returned (.int .i64 i) ∧ w' = w := by
  obtain ⟨b1, o1, A1, C1, rfl, hb1, hc1⟩ := h (by omega)
  have HC := hide hc1
  have HF := hide hf
  have HD := hide hd
  clear h hc1 hf hd
  go_enter Try.func27, Try.ntmps27
  go_wp2
  go_loop [5] (fun q => ∃ k : Nat, k ≤ i ∧ q = .int .i64 k) (fun q => n - (intOf q).toNat)
  case atStart => exact ⟨0, Nat.zero_le _, rfl⟩
  case round =>
    obtain ⟨k, hk, rfl⟩ := hrel
    have hlt : k < n := by omega
    obtain ⟨c1, _, _⟩ := HC.out k hlt
    by_cases e : k = i
    · subst e
      rw [HD.out] at c1
      go_wp2
      go_ret
      exact ⟨rfl, rfl⟩
    · have hne : (D k == d) = false := by simpa using HF.out k (by omega)
      generalize D k = dd at c1 hne
      go_wp2
      go_round
      case rel => exact ⟨k + 1, by omega, by go_num⟩
      case measure => simp [intOf]; omega

set_option maxRecDepth 100000 in
set_option maxHeartbeats 800000 in
theorem l2At_no (a : Option Addr) (c n : Nat) (d : Int) (D : Nat → Int) (P : Nat → List Int) (w : World) (h : RdC w a D P n) (hn : n ≤ 1048576) (hf : ∀ j, j < n → D j ≠ d) :
    Calls Try.prog 27 #[.slice a n c, .int .i64 d] w fun e w' => e = .returned (.int .i64 (-1)) ∧ w' = w := by
  have HA := hide h
  have HF := hide hf
  clear h hf
  go_enter Try.func27, Try.ntmps27
  go_wp2
  go_loop [5] (fun q => ∃ k : Nat, k ≤ n ∧ q = .int .i64 k) (fun q => n - (intOf q).toNat)
  case atStart => exact ⟨0, Nat.zero_le _, rfl⟩
  case round =>
    obtain ⟨k, hk, rfl⟩ := hrel
    by_cases hlt : k < n
    · obtain ⟨b1, o1, A1, C1, rfl, hb1, hc1⟩ := HA.out (by omega)
      obtain ⟨c1, _, _⟩ := hc1 k hlt
      have hne : (D k == d) = false := by simpa using HF.out k hlt
      generalize D k = dd at c1 hne
      clear hc1
      go_wp2
      go_round
      case rel => exact ⟨k + 1, by omega, by go_num⟩
      case measure => simp [intOf]; omega
    · go_wp2
      go_ret
      exact ⟨rfl, rfl⟩

end Go.Proofs.Ytngoikgopnnneaa

namespace Go.Proofs.Ytngoikgopnnneaa
open Go.RowKit
set_option linter.unusedVariables false

theorem Try.infoI64 : (Try.prog.info? 2).map (fun i => (i.zero, i.size, i.bytes)) = some (some (.int .i64 0), 1, 8) := by kernel_rfl

set_option maxHeartbeats 400000 in
theorem eqInt64S_any (a b : Option Addr) (ca cb : Nat) (xs ys : List Int) (w : World) (ha : Reads .i64 w a xs) (hb : Reads .i64 w b ys) (hl : xs.length ≤ 1048576) (hl2 : ys.length ≤ 1048576) :
    Calls Try.prog 20 #[.slice a xs.length ca, .slice b ys.length cb] w fun e w' => e = .returned (.bool (xs == ys)) ∧ ∃ n, w' = w.drewN n := by
  by_cases hlen : xs.length = ys.length
  · have hne : ((xs.length : Int) != (ys.length : Int)) = false := by simp [hlen]
    go_enter Try.func20, Try.ntmps20
    go_wp2
    go_loopw [5] (fun i wr => ∃ k : Nat, k ≤ xs.length ∧ i = .int .i64 k ∧ xs.take k = ys.take k ∧ ∃ n, wr = w.drewN n) (fun i _ => xs.length - (intOf i).toNat)
    case atStart => exact ⟨0, Nat.zero_le _, rfl, rfl, 0, rfl⟩
    case round =>
      obtain ⟨k, hk, rfl, htk, n, rfl⟩ := hrel
      have HT := hide htk
      clear htk
      by_cases hlt : k < xs.length
      · obtain ⟨b1, o1, rfl, hb1, hc1⟩ := ha (by intro e; simp [e] at hlt)
        obtain ⟨b2, o2, rfl, hb2, hc2⟩ := hb (by intro e; rw [e] at hlen; simp at hlen; simp [hlen] at hlt)
        obtain ⟨x, hx⟩ : ∃ x, x = xs.getD k 0 := ⟨_, rfl⟩
        obtain ⟨y, hy⟩ : ∃ y, y = ys.getD k 0 := ⟨_, rfl⟩
        have c1 : w.cell? ⟨b1, o1 + k, none⟩ = some (.int .i64 x) := by rw [hx]; exact hc1 k hlt
        have c2 : w.cell? ⟨b2, o2 + k, none⟩ = some (.int .i64 y) := by rw [hy]; exact hc2 k (by omega)
        have HX := hide hx
        have HY := hide hy
        clear hc1 hc2 ha hb hx hy
        have hk2 : k < ys.length := by omega
        by_cases heq : x = y
        · have hb : (x != y) = false := by simp [heq]
          have HE := hide heq
          clear heq
          go_wp2
          go_quiet (fail)
          go_wp2
          go_roundw
          case rel => exact ⟨k + 1, by omega, by go_num, take_eq_step hlt hk2 HT.out (by rw [← HX.out, ← HY.out]; exact HE.out), _, rfl⟩
          case measure => simp [intOf]; omega
        · have hb : (x != y) = true := by simp [heq]
          go_wp2
          go_quiet (fail)
          go_wp2
          go_ret
          exact ⟨ret_bool (ne_of_getD (k := k) (by rw [← HX.out, ← HY.out]; exact heq)).symm, _, World.drewN_drewN _ _ _⟩
      · go_wp2
        go_ret
        exact ⟨ret_bool (eq_of_take (k := k) (by omega) (by omega) HT.out).symm, _, rfl⟩
  · have hne : ((xs.length : Int) != (ys.length : Int)) = true := by simp; omega
    go_enter Try.func20, Try.ntmps20
    go_wp2
    go_ret
    have e : (xs == ys) = false := by simp; intro e; exact hlen (by rw [e])
    exact ⟨ret_bool e.symm, 0, rfl⟩



theorem eqInt64S_b (a b : Option Addr) (ca cb : Nat) (xs : List Int) (w : World) (ha : Reads .i64 w a xs) (hb : Reads .i64 w b xs) (hl : xs.length ≤ 1048576) :
    Calls Try.prog 20 #[.slice a xs.length ca, .slice b xs.length cb] w fun e w' => e = .returned (.bool true) ∧ Below w.heap.size w w' := by
  refine (eqInt64S_any a b ca cb xs xs w ha hb hl hl).mono ?_
  rintro e w' ⟨rfl, m, rfl⟩
  exact ⟨ret_bool (by simp), below_drewN (Below.refl _ _) m⟩


set_option maxHeartbeats 400000 in
theorem toInt64S_any (a : Option Addr) (cap : Nat) (zs : List Int) (w : World) (h : Reads .i64 w a zs) (hl : zs.length ≤ 1048576) :
    Calls Try.prog 14 #[.slice a zs.length cap] w fun e w' => e = .returned (.slice (some ⟨w.heap.size, 0, none⟩) zs.length zs.length) ∧
      w'.rowIs w.heap.size 2 zs.length (fun i => .int .i64 (zs.getD i 0)) ∧ Below w.heap.size w w' := by
  have hmk := run_make_row' (P := Try.prog) 23 2 (.int .i64 0) 8 Try.underlying23 Try.infoI64 rfl .i64 .i64 zs.length (by omega) (by omega)
  go_enter Try.func14, Try.ntmps14
  go_wp2
  go_loopw [4] (fun i wr => ∃ k : Nat, k ≤ zs.length ∧ i = .int .i64 k ∧ wr.rowIs w.heap.size 2 zs.length (fun j => if j < k then .int .i64 (zs.getD j 0) else .int .i64 0) ∧ Below w.heap.size w wr) (fun i _ => zs.length - (intOf i).toNat)
  case atStart => exact ⟨0, Nat.zero_le _, rfl, (World.rowIs_made w _ _ _).congr (by simp), (Below.refl _ _).alloc (Nat.le_refl _) _⟩
  case round =>
    obtain ⟨k, hk, rfl, hrow, hbel⟩ := hrel
    by_cases hlt : k < zs.length
    · obtain ⟨b, off, rfl, hb, hc⟩ := h (by intro e; simp [e] at hlt)
      obtain ⟨z, hz⟩ : ∃ z, z = zs.getD k 0 := ⟨_, rfl⟩
      have hc1 : wr.cell? ⟨b, off + k, none⟩ = some (.int .i64 z) := (hbel.cell (p := ⟨b, off + k, none⟩) hb).trans (by rw [hz]; exact hc k hlt)
      have hf : wr.frozen? ⟨w.heap.size, k, none⟩ = false := hrow.frozen k
      have hc0 : wr.cell? ⟨w.heap.size, k, none⟩ = some (.int .i64 0) := by rw [hrow.cell hlt, if_neg (by omega)]
      have HZ := hide hz
      clear hz
      have HR := hide hrow
      have HB := hide hbel
      have HC := hide hc
      clear hrow hbel hc h
      go_wp2
      go_roundw
      case rel => exact ⟨k + 1, by omega, by go_num, by rw [HZ.out]; exact row_step (f := fun j => .int .i64 (zs.getD j 0)) (z := fun _ => .int .i64 0) HR.out, HB.out.setCell (Nat.le_refl _) _⟩
      case measure => simp [intOf]; omega
    · go_wp2
      go_ret
      exact ⟨rfl, hrow.congr (fun i hi => by rw [if_pos (by omega)]), hbel⟩


theorem toInt64S_at (a : Option Addr) (cap : Nat) (zs : List Int) (w : World) (h : Reads .i64 w a zs) (hl : zs.length ≤ 1048576) :
    Calls Try.prog 14 #[.slice a zs.length cap] w fun e w' => ∃ g, e = .returned (.slice (some ⟨g, 0, none⟩) zs.length zs.length) ∧ w.heap.size ≤ g ∧ g < w'.heap.size ∧ Own .i64 w' (some ⟨g, 0, none⟩) zs ∧ Below w.heap.size w w' := by
  refine (toInt64S_any a cap zs w h hl).mono ?_
  rintro e w' ⟨rfl, hr, hb⟩
  exact ⟨_, rfl, Nat.le_refl _, hr.lt, Own.row hr (Nat.le_refl _) (fun _ _ => rfl), hb⟩


end Go.Proofs.Ytngoikgopnnneaa

namespace Go.Proofs.Ytngoikgopnnneaa
open Go.RowKit Go.Maps
set_option linter.unusedVariables false

def digFault (zs : List Int) (i : Nat) : Option Int := if 0 ≤ zs.getD i 0 ∧ zs.getD i 0 ≤ 4294967295 then none else some 3
def asked (zs : List Int) : Int := if 3 < zs.length then 2 else firstBad (digFault zs) 0 zs.length
def both (F : Int) (zs : List Int) : Int := if F = 0 then asked zs else F
end Go.Proofs.Ytngoikgopnnneaa

namespace Go.Proofs.Ytngoikgopnnneaa
open Go.RowKit Go.Maps
set_option linter.unusedVariables false

theorem first_at {D : Nat → Int} {z : Int} : ∀ {n : Nat}, (∃ i, i < n ∧ D i = z) → ∃ i, i < n ∧ D i = z ∧ ∀ j, j < i → D j ≠ z
  | 0, ⟨i, hi, _⟩ => by omega
  | n + 1, ⟨i, hi, e⟩ => by
    by_cases h : ∃ i, i < n ∧ D i = z
    · obtain ⟨j, h1, h2, h3⟩ := first_at h
      exact ⟨j, by omega, h2, h3⟩
    · have hin : i = n := by
        rcases Nat.lt_or_ge i n with h' | h'
        · exact absurd ⟨i, h', e⟩ h
        · omega
      subst hin
      exact ⟨i, by omega, e, fun j hj ej => h ⟨j, hj, ej⟩⟩

theorem contains_upto {ms : List Int} {z : Int} (h : ∀ j, j < ms.length → ms.getD j 0 ≠ z) : ms.contains z = false := by
  simp only [List.contains_eq_mem, decide_eq_false_iff_not]
  intro hm
  obtain ⟨j, hj, e⟩ := List.mem_iff_getElem.1 hm
  exact h j hj (by simp [List.getD_eq_getElem?_getD, hj, e])
theorem contains_hit {ms : List Int} {z : Int} {j : Nat} (hj : j < ms.length) (h : ms.getD j 0 = z) : ms.contains z = true := by
  simp only [List.contains_eq_mem, decide_eq_true_eq]
  have : ms.getD j 0 = ms[j] := by simp [List.getD_eq_getElem?_getD, hj]
  rw [← h, this]
  exact List.getElem_mem hj

set_option maxRecDepth 100000 in
set_option maxHeartbeats 800000 in
theorem l2Among_any (a : Option Addr) (c : Nat) (ms : List Int) (z : Int) (w : World) (h : Reads .i64 w a ms) (hl : ms.length ≤ 1048576) :
    Calls Try.prog 26 #[.slice a ms.length c, .int .i64 z] w fun e w' => e = .returned (.bool (ms.contains z)) ∧ w' = w := by
  have HA := hide h
  clear h
  generalize hr : ms.contains z = r
  have HR := hide hr
  clear hr
  go_enter Try.func26, Try.ntmps26
  go_wp2
  go_loop [5] (fun i => ∃ k : Nat, k ≤ ms.length ∧ i = .int .i64 k ∧ ∀ j, j < k → ms.getD j 0 ≠ z) (fun i => ms.length - (intOf i).toNat)
  case atStart => exact ⟨0, Nat.zero_le _, rfl, fun j hj => absurd hj (by omega)⟩
  case round =>
    obtain ⟨k, hk, rfl, hF⟩ := hrel
    have HF := hide hF
    clear hF
    by_cases hlt : k < ms.length
    · obtain ⟨b, off, rfl, hb1, hc⟩ := HA.out (by intro e; simp [e] at hlt)
      have hc1 := hc k hlt
      generalize hy : ms.getD k 0 = y at hc1
      have HY := hide hy
      clear hy hc
      by_cases e : y = z
      · have e' : (y == z) = true := by simpa using e
        have HE := hide e
        clear e
        go_wp2
        go_ret
        exact ⟨ret_bool (by rw [← HR.out]; exact (contains_hit hlt (HY.out.trans HE.out)).symm), rfl⟩
      · have e' : (y == z) = false := by simpa using e
        go_wp2
        go_round
        case rel => exact ⟨k + 1, by omega, by go_num, fun j hj => by
          by_cases ej : j = k
          · subst ej; rw [HY.out]; exact e
          · exact HF.out j (by omega)⟩
        case measure => simp [intOf]; omega
    · go_wp2
      go_ret
      exact ⟨ret_bool (by rw [← HR.out]; exact (contains_upto (fun j hj => HF.out j (by omega))).symm), rfl⟩

set_option maxRecDepth 100000 in
set_option maxHeartbeats 800000 in
theorem slIndex_any (a : Option Addr) (c : Nat) (ms : List Int) (z : Int) (w : World) (h : Reads .i64 w a ms) (hl : ms.length ≤ 1048576) :
    Calls Try.prog 46 #[.slice a ms.length c, .int .i64 z] w fun e w' => (∃ i : Int, e = .returned (.int .i64 i) ∧ decide (0 ≤ i) = ms.contains z ∧ -1 ≤ i ∧ i ≤ 1048576) ∧ w' = w := by
  have HA := hide h
  clear h
  generalize hr : ms.contains z = r
  have HR := hide hr
  clear hr
  go_enter Try.func46, Try.ntmps46
  go_wp2
  go_loop [5, 8] (fun _ i => ∃ k : Nat, k ≤ ms.length ∧ i = .int .i64 k ∧ ∀ j, j < k → ms.getD j 0 ≠ z) (fun _ i => ms.length - (intOf i).toNat)
  case atStart => exact ⟨0, Nat.zero_le _, rfl, fun j hj => absurd hj (by omega)⟩
  case round =>
    obtain ⟨k, hk, rfl, hF⟩ := hrel
    have HF := hide hF
    clear hF
    by_cases hlt : k < ms.length
    · obtain ⟨b, off, rfl, hb1, hc⟩ := HA.out (by intro e; simp [e] at hlt)
      have hc1 := hc k hlt
      generalize hy : ms.getD k 0 = y at hc1
      have HY := hide hy
      clear hy hc
      by_cases e : y = z
      · have e' : (z == y) = true := by simpa using e.symm
        have HE := hide e
        clear e
        go_wp2
        go_ret
        exact ⟨⟨_, rfl, by rw [← HR.out, contains_hit hlt (HY.out.trans HE.out)]; simp, by omega, by omega⟩, rfl⟩
      · have e' : (z == y) = false := by simpa using fun h => e h.symm
        go_wp2
        go_round
        case rel => exact ⟨k + 1, by omega, by go_num, fun j hj => by
          by_cases ej : j = k
          · subst ej; rw [HY.out]; exact e
          · exact HF.out j (by omega)⟩
        case measure => simp [intOf]; omega
    · go_wp2
      go_ret
      exact ⟨⟨_, rfl, by rw [← HR.out, contains_upto (fun j hj => HF.out j (by omega))]; simp, by omega, by omega⟩, rfl⟩

set_option maxRecDepth 100000 in
set_option maxHeartbeats 800000 in
theorem slContains_any (a : Option Addr) (c : Nat) (ms : List Int) (z : Int) (w : World) (h : Reads .i64 w a ms) (hl : ms.length ≤ 1048576) :
    Calls Try.prog 42 #[.slice a ms.length c, .int .i64 z] w fun e w' => e = .returned (.bool (ms.contains z)) ∧ w' = w := by
  have HC := hide (slIndex_any a c ms z w h hl)
  clear h
  generalize ms.contains z = r at *
  go_enter Try.func42, Try.ntmps42
  go_wp2_with fail
  refine HC.out.mono ?_
  rintro e w1 ⟨⟨i, rfl, hi, h1, h2⟩, rfl⟩
  subst hi
  go_wp2_with fail
  go_ret
  exact ⟨rfl, rfl⟩


end Go.Proofs.Ytngoikgopnnneaa

namespace Go.Proofs.Ytngoikgopnnneaa
open Go.RowKit Go.Maps
set_option linter.unusedVariables false

def RdW (w : World) (a : Option Addr) (W : List Wn) : Prop :=
  W ≠ [] → ∃ b off, a = some ⟨b, off, none⟩ ∧ b < w.heap.size ∧ ∀ i, i < W.length → w.cell? ⟨b, off + i * 2, none⟩ = some (.int .i64 (W.getD i (0, 0)).1) ∧ w.cell? ⟨b, off + i * 2 + 1, none⟩ = some (.int .i64 (W.getD i (0, 0)).2)
theorem RdW.kept {S : Nat → Prop} {w w' : World} {a : Option Addr} {W : List Wn} (h : RdW w a W) (hk : Kept S w w') (hn : W ≠ [] → ∀ x, a = some x → ¬ S x.block) : RdW w' a W := by
  intro hz
  obtain ⟨b, off, rfl, hb, hc⟩ := h hz
  have hS := hn hz ⟨b, off, none⟩ rfl
  exact ⟨b, off, rfl, Nat.lt_of_lt_of_le hb hk.size, fun i hi => ⟨(hk.cell (p := ⟨b, off + i * 2, none⟩) hb hS).trans (hc i hi).1, (hk.cell (p := ⟨b, off + i * 2 + 1, none⟩) hb hS).trans (hc i hi).2⟩⟩
theorem RdW.below {w w' : World} {a : Option Addr} {W : List Wn} (h : RdW w a W) (hk : Below w.heap.size w w') : RdW w' a W :=
  h.kept (S := fun _ => False) (Kept.of_below hk) (fun _ _ _ => id)
def ptrV (p : Nat) : Value := .pointer (some ⟨p, 0, none⟩)
def RdP (w : World) (a : Option Addr) (ps : List Nat) (W : List Wn) : Prop :=
  ps.length = W.length ∧ (∀ i, i < W.length → Two w (ps.getD i 0) (.int .i64 (W.getD i (0, 0)).1) (.int .i64 (W.getD i (0, 0)).2)) ∧ (W ≠ [] → ∃ b off, a = some ⟨b, off, none⟩ ∧ b < w.heap.size ∧ ∀ i, i < W.length → w.cell? ⟨b, off + i, none⟩ = some (ptrV (ps.getD i 0)))
theorem RdP.below {w w' : World} {a : Option Addr} {ps : List Nat} {W : List Wn} (h : RdP w a ps W) (hk : Below w.heap.size w w') : RdP w' a ps W := by
  obtain ⟨h1, h2, h3⟩ := h
  refine ⟨h1, fun i hi => (h2 i hi).below hk, fun hz => ?_⟩
  obtain ⟨b, off, rfl, hb, hc⟩ := h3 hz
  exact ⟨b, off, rfl, Nat.lt_of_lt_of_le hb hk.size, fun i hi => (hk.cell (p := ⟨b, off + i, none⟩) hb).trans (hc i hi)⟩
theorem RdP.nil (w : World) (a : Option Addr) : RdP w a [] [] := ⟨rfl, fun i hi => absurd hi (by simp), fun h => absurd rfl h⟩
structure OwnP (B : Nat) (w : World) (v : Value) (ps : List Nat) (W : List Wn) : Prop where
  row : w.ownsRow B 69 1 v W.length (ps.map ptrV)
  len : ps.length = W.length
  box : ∀ i, i < W.length → B ≤ ps.getD i 0 ∧ Box w (ps.getD i 0) (.int .i64 (W.getD i (0, 0)).1) (.int .i64 (W.getD i (0, 0)).2)
  one : ps.Nodup
theorem OwnP.nil (B : Nat) (w : World) : OwnP B w (.slice none 0 0) [] [] := ⟨World.ownsRow_nil _ _ _ _, rfl, fun i hi => absurd hi (by simp), List.nodup_nil⟩
theorem OwnP.rd {B : Nat} {w : World} {a : Option Addr} {n c : Nat} {ps : List Nat} {W : List Wn} (h : OwnP B w (.slice a n c) ps W) : RdP w a ps W := by
  refine ⟨h.len, fun i hi => (h.box i hi).2.1, fun hz => ?_⟩
  have h0 : 0 < W.length := List.length_pos_iff.2 hz
  have hr := h.row
  rcases hr.2 with ⟨h', hh⟩ | ⟨g, cap, cur, h', hb, hh, hnc, hcm, hcs, htake⟩
  · omega
  · have hl : n = W.length ∧ a = some ⟨g, 0, none⟩ := by simp only [Value.slice.injEq] at h'; exact ⟨h'.2.1, h'.1⟩
    obtain ⟨rfl, rfl⟩ := hl
    refine ⟨g, 0, rfl, (hr.lt g rfl).2, fun i hi => ?_⟩
    have := World.ownsRow.cellAt hr i (by omega)
    have hlp : i < ps.length := by rw [h.len]; exact hi
    simpa [Nat.zero_add, List.getD_eq_getElem?_getD, hlp] using this
theorem OwnP.kept {S : Nat → Prop} {B : Nat} {w w' : World} {v : Value} {ps : List Nat} {W : List Wn} (h : OwnP B w v ps W) (hk : Kept S w w') (hS : ∀ b, B ≤ b → ¬ S b) : OwnP B w' v ps W :=
  ⟨ownsRow_kept h.row hk (fun b hb => hS b (h.row.lt b hb).1), h.len, fun i hi => ⟨(h.box i hi).1, (h.box i hi).2.kept hk (hS _ (h.box i hi).1)⟩, h.one⟩
theorem OwnP.below {B : Nat} {w w' : World} {v : Value} {ps : List Nat} {W : List Wn} (h : OwnP B w v ps W) (hk : Below w.heap.size w w') : OwnP B w' v ps W :=
  h.kept (S := fun _ => False) (Kept.of_below hk) (fun _ _ => id)
theorem row_box {w : World} {B p : Nat} {v : Value} {ps : List Nat} {n : Nat} {d t : Int} (h : w.ownsRow B 69 1 v n (ps.map ptrV)) (hn : n = ps.length) (hp : Two w p (.int .i64 d) (.int .i64 t)) : ∀ b, v.ownBlock = some b → 0 < n → p ≠ b := by
  rintro b hb h0 rfl
  rcases h.2 with ⟨h', hh⟩ | ⟨g, cap, cur, rfl, hg, hh, hnc, hcm, hcs, htake⟩
  · omega
  · simp only [Value.ownBlock, Option.some.injEq] at hb
    subst hb
    have := World.ownsRow.cellAt h 0 (by omega)
    have hlp : 0 < ps.length := by omega
    rw [hp.1] at this
    simp [ptrV, List.getElem?_eq_getElem hlp] at this
theorem getD_snoc {α : Type} {l : List α} {x z : α} {i : Nat} (hi : i < l.length) : (l ++ [x]).getD i z = l.getD i z := by simp [List.getD_eq_getElem?_getD, List.getElem?_append_left hi]
theorem getD_last {α : Type} {l : List α} {x z : α} : (l ++ [x]).getD l.length z = x := by simp [List.getD_eq_getElem?_getD]
theorem OwnP.push {B : Nat} {w w2 : World} {v v' : Value} {ps : List Nat} {W : List Wn} {p : Nat} {d t : Int} (h : OwnP B w v ps W) (hb : Box w p (.int .i64 d) (.int .i64 t)) (hB : B ≤ p) (hnew : ∀ i, i < W.length → ps.getD i 0 ≠ p) (hrow : w2.ownsRow B 69 1 v' (W.length + 1) (ps.map ptrV ++ [ptrV p])) (hk : Kept (fun b => v.ownBlock = some b) w w2) (hv : ∀ b, v.ownBlock = some b → p ≠ b) : OwnP B w2 v' (ps ++ [p]) (W ++ [(d, t)]) := by
  have hpos : ∀ b, v.ownBlock = some b → ∀ i, i < W.length → ps.getD i 0 ≠ b := fun b hb' i hi => row_box h.row h.len.symm (h.box i hi).2.1 b hb' (by omega)
  refine ⟨by simpa using hrow, by simp [h.len], fun i hi => ?_, ?_⟩
  · by_cases e : i < W.length
    · rw [getD_snoc (by rw [h.len]; exact e), getD_snoc e]
      exact ⟨(h.box i e).1, (h.box i e).2.kept hk (fun hS => hpos _ hS i e rfl)⟩
    · have hi2 : i = W.length := by simp at hi; omega
      subst hi2
      rw [getD_last]
      rw [show W.length = ps.length from h.len.symm, getD_last]
      exact ⟨hB, hb.kept hk (fun hS => hv _ hS rfl)⟩
  · rw [List.nodup_append]
    refine ⟨h.one, by simp, fun x hx y hy e => ?_⟩
    simp at hy
    subst hy
    subst e
    obtain ⟨i, hi, e⟩ := List.getElem_of_mem hx
    exact hnew i (by rw [← h.len]; exact hi) (by rw [List.getD_eq_getElem?_getD, List.getElem?_eq_getElem hi]; exact e)
theorem isDg_any (n : Int) (w : World) : Calls Try.prog 32 #[.int .i64 n] w fun e w' => e = .returned (.bool (decide (okD n))) ∧ w' = w := by
  by_cases h0 : 0 ≤ n
  · by_cases h1 : n ≤ 4294967295
    · have hd : decide (okD n) = true := decide_eq_true ⟨h0, h1⟩
      rw [hd]
      go_enter Try.func32, Try.ntmps32
      go_wp2
      go_ret
      exact ⟨ret_bool (by simp <;> omega), rfl⟩
    · have hd : decide (okD n) = false := decide_eq_false (fun h => h1 h.2)
      rw [hd]
      go_enter Try.func32, Try.ntmps32
      go_wp2
      go_ret
      exact ⟨ret_bool (by simp <;> omega), rfl⟩
  · have hd : decide (okD n) = false := decide_eq_false (fun h => h0 h.1)
    rw [hd]
    have hneg : n < 0 := by omega
    go_enter Try.func32, Try.ntmps32
    go_wp2
    go_ret
    exact ⟨ret_bool (by simp <;> omega), rfl⟩
set_option maxRecDepth 100000 in
set_option maxHeartbeats 800000 in
theorem wanted_yes (fb : Nat) (a : Option Addr) (c i : Nat) (ps : List Nat) (W : List Wn) (d : Int) (w : World) (h0 : w.cell? ⟨fb, 0, none⟩ = some (.slice a W.length c)) (h : RdP w a ps W) (hl : W.length ≤ 1048576) (hi : i < W.length) (hd : (W.getD i (0, 0)).1 = d) (hf : ∀ j, j < i → (W.getD j (0, 0)).1 ≠ d) (p : Nat) (hp : ps.getD i 0 = p) :
    Calls Try.prog 43 #[.pointer (some ⟨fb, 0, none⟩), .int .i64 d] w fun e w' => e = .returned (.pointer (some ⟨p, 0, none⟩)) ∧ w' = w := by
  obtain ⟨h1, h2, h3⟩ := h
  obtain ⟨b1, o1, rfl, hb1, hc1⟩ := h3 (by intro e; simp [e] at hi)
  have H2 := hide h2
  have HC := hide hc1
  have HF := hide hf
  have HD := hide hd
  have HPP := hide hp
  clear h1 h2 h3 hc1 hf hd hp
  go_enter Try.func43, Try.ntmps43
  go_wp2
  go_loop [6, 12] (fun _ q => ∃ k : Nat, k ≤ i ∧ q = .int .i64 k) (fun _ q => W.length - (intOf q).toNat)
  case atStart => exact ⟨0, Nat.zero_le _, rfl⟩
  case round =>
    obtain ⟨k, hk, rfl⟩ := hrel
    have hlt : k < W.length := by omega
    have c1 := HC.out k hlt
    obtain ⟨e1, -⟩ := H2.out k hlt
    by_cases e : k = i
    · subst e
      rw [HD.out] at e1
      rw [HPP.out] at c1 e1
      unfold ptrV at *
      go_wp2
      go_ret
      exact ⟨rfl, rfl⟩
    · have hne : ((W.getD k (0, 0)).1 == d) = false := by simpa using HF.out k (by omega)
      generalize (W.getD k (0, 0)).1 = dd at e1 hne
      generalize ps.getD k 0 = p' at *
      unfold ptrV at *
      go_wp2
      go_round
      case rel => exact ⟨k + 1, by omega, by go_num⟩
      case measure => simp [intOf]; omega
set_option maxRecDepth 100000 in
set_option maxHeartbeats 800000 in
theorem wanted_no (fb : Nat) (a : Option Addr) (c : Nat) (ps : List Nat) (W : List Wn) (d : Int) (w : World) (h0 : w.cell? ⟨fb, 0, none⟩ = some (.slice a W.length c)) (h : RdP w a ps W) (hl : W.length ≤ 1048576) (hf : ∀ j, j < W.length → (W.getD j (0, 0)).1 ≠ d) :
    Calls Try.prog 43 #[.pointer (some ⟨fb, 0, none⟩), .int .i64 d] w fun e w' => e = .returned (.pointer none) ∧ w' = w := by
  obtain ⟨h1, h2, h3⟩ := h
  have H2 := hide h2
  have H3 := hide h3
  have HF := hide hf
  clear h1 h2 h3 hf
  go_enter Try.func43, Try.ntmps43
  go_wp2
  go_loop [6, 12] (fun _ q => ∃ k : Nat, k ≤ W.length ∧ q = .int .i64 k) (fun _ q => W.length - (intOf q).toNat)
  case atStart => exact ⟨0, Nat.zero_le _, rfl⟩
  case round =>
    obtain ⟨k, hk, rfl⟩ := hrel
    by_cases hlt : k < W.length
    · obtain ⟨b1, o1, rfl, hb1, hc1⟩ := H3.out (by intro e; simp [e] at hlt)
      have c1 := hc1 k hlt
      clear hc1
      obtain ⟨e1, -⟩ := H2.out k hlt
      have hne : ((W.getD k (0, 0)).1 == d) = false := by simpa using HF.out k (by omega)
      generalize (W.getD k (0, 0)).1 = dd at e1 hne
      generalize ps.getD k 0 = p' at *
      unfold ptrV at *
      go_wp2
      go_round
      case rel => exact ⟨k + 1, by omega, by go_num⟩
      case measure => simp [intOf]; omega
    · go_wp2
      go_ret
      exact ⟨rfl, rfl⟩
end Go.Proofs.Ytngoikgopnnneaa

