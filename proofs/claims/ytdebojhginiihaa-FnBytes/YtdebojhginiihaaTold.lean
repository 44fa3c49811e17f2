/-
  What is missing of bytes that are put, and what is there behind it.
-/
import Derived.Test.YtdebojhginiihaaManyC
import Derived.Test.YtdebojhginiihaaJoin
import Derived.Test.YtdebojhginiihaaDigests
namespace Go.Proofs.Ytdebojhginiihaa
open Go.RowKit Go.Maps
set_option linter.unusedVariables false

theorem putS_has {s : St} {z : List Int} {d : Int} : hasS (putS s z) d = true ↔ hasS s d = true ∨ d = digest z := by
  have hm := (plc_ok s.1 (digest z) s.2.2).1
  constructor
  · intro h
    obtain ⟨i, hi, e⟩ := hasS_true h
    simp only [putS, ins] at hi e
    by_cases h1 : i < plc s.1 (digest z) s.2.2
    · rw [if_pos h1] at e
      exact .inl (by simp only [hasS, List.any_eq_true, List.mem_range, beq_iff_eq]; exact ⟨i, by omega, e⟩)
    · rw [if_neg h1] at e
      by_cases h2 : i = plc s.1 (digest z) s.2.2
      · rw [if_pos h2] at e; exact .inr e.symm
      · rw [if_neg h2] at e
        exact .inl (by simp only [hasS, List.any_eq_true, List.mem_range, beq_iff_eq]; exact ⟨i - 1, by omega, e⟩)
  · intro h
    simp only [hasS, List.any_eq_true, List.mem_range, beq_iff_eq]
    rcases h with h | h
    · obtain ⟨i, hi, e⟩ := hasS_true h
      by_cases h1 : i < plc s.1 (digest z) s.2.2
      · exact ⟨i, by simp only [putS]; omega, by simp only [putS, ins]; rw [if_pos h1]; exact e⟩
      · exact ⟨i + 1, by simp only [putS]; omega, by simp only [putS, ins]; rw [if_neg (by omega), if_neg (by omega)]; exact e⟩
    · exact ⟨plc s.1 (digest z) s.2.2, by simp only [putS]; omega, by simp only [putS, ins]; rw [if_neg (by omega), if_pos trivial]; exact h.symm⟩

/-- What a run leaves: as many as there were and as were missing; what was there and what was missing; all of its pieces. -/
theorem run_facts {s : St} {Z : Nat → List Int} {zs : List Int} {N : Nat} (hz : ∀ k, k < N → zs.getD k 0 = digest (Z k)) : ∀ k, k ≤ N → ∀ t, runS s Z k = some t →
    t.2.2 = s.2.2 + (miss s.1 s.2.2 zs k).length ∧ (∀ d, hasS t d = true ↔ hasD s.1 s.2.2 d = true ∨ d ∈ miss s.1 s.2.2 zs k) ∧ ∀ j, j < k → hasS t (zs.getD j 0) = true
  | 0, _, t, ht => by
    simp only [runS, Option.some.injEq] at ht
    subst ht
    exact ⟨by simp [miss], fun d => by simp [miss, hasS, hasD], fun j hj => absurd hj (by omega)⟩
  | k + 1, hk, t, ht => by
    cases hr : runS s Z k with
    | none => simp [runS, hr] at ht
    | some u =>
      obtain ⟨i1, i2, i3⟩ := run_facts hz k (by omega) u hr
      rw [runS_next hr] at ht
      have hzk := hz k (by omega)
      unfold stepS at ht
      cases hh : hasS u (digest (Z k)) with
      | true =>
        rw [hh, if_pos rfl] at ht
        simp only [Option.some.injEq] at ht
        subst ht
        have hm : miss s.1 s.2.2 zs (k + 1) = miss s.1 s.2.2 zs k := miss_stay hzk (((i2 _).1 hh).imp id (fun h => by simpa using h))
        refine ⟨by rw [hm]; exact i1, fun d => by rw [hm]; exact i2 d, fun j hj => ?_⟩
        by_cases e : j = k
        · subst e; rw [hzk]; exact hh
        · exact i3 j (by omega)
      | false =>
        rw [hh, if_neg (by simp)] at ht
        by_cases hf : 40 ≤ u.2.2
        · rw [if_pos hf] at ht; cases ht
        · rw [if_neg hf] at ht
          simp only [Option.some.injEq] at ht
          subst ht
          have hn : ¬ (hasD s.1 s.2.2 (digest (Z k)) = true ∨ digest (Z k) ∈ miss s.1 s.2.2 zs k) := fun h => by
            have := (i2 _).2 h
            rw [hh] at this
            cases this
          have hm : miss s.1 s.2.2 zs (k + 1) = miss s.1 s.2.2 zs k ++ [digest (Z k)] := miss_more hzk (by
            cases e : hasD s.1 s.2.2 (digest (Z k)) with
            | false => rfl
            | true => exact absurd (.inl e) hn) (by
            cases e : (miss s.1 s.2.2 zs k).contains (digest (Z k)) with
            | false => rfl
            | true => exact absurd (.inr (by simpa using e)) hn)
          refine ⟨by rw [hm]; simp only [putS, List.length_append, List.length_singleton]; omega, fun d => ?_, fun j hj => ?_⟩
          · rw [hm, putS_has, i2 d, List.mem_append, List.mem_singleton, or_assoc]
          · rw [putS_has]
            by_cases e : j = k
            · subst e; exact .inr hzk
            · exact .inl (i3 j (by omega))

theorem miss_none {D : Nat → Int} {n : Nat} {zs : List Int} : ∀ k, (∀ j, j < k → hasD D n (zs.getD j 0) = true) → miss D n zs k = []
  | 0, _ => rfl
  | k + 1, h => by
    rw [miss_stay rfl (.inl (h k (by omega)))]
    exact miss_none k (fun j hj => h j (by omega))
theorem miss_mem {D : Nat → Int} {n : Nat} {zs : List Int} {j : Nat} (h : hasD D n (zs.getD j 0) = false) : ∀ k, j < k → zs.getD j 0 ∈ miss D n zs k
  | 0, hj => absurd hj (by omega)
  | k + 1, hj => by
    have hc : zs.getD j 0 ∈ miss D n zs k ∨ j = k := by
      by_cases e : j = k
      · exact .inr e
      · exact .inl (miss_mem h k (by omega))
    by_cases h2 : hasD D n (zs.getD k 0) = true ∨ (miss D n zs k).contains (zs.getD k 0) = true
    · rw [miss_stay rfl h2]
      rcases hc with hc | rfl
      · exact hc
      · rcases h2 with h2 | h2
        · rw [h] at h2; cases h2
        · simpa using h2
    · rw [miss_more rfl (by simpa using fun e => h2 (.inl e)) (by simpa using fun e => h2 (.inr (by simpa using e))), List.mem_append]
      rcases hc with hc | rfl
      · exact .inl hc
      · exact .inr (by simp)
/-- The first that is not there. -/
theorem first_away (D : Nat → Int) (n : Nat) (zs : List Int) : ∀ N, ∃ m, m ≤ N ∧ (∀ j, j < m → hasD D n (zs.getD j 0) = true) ∧ (m < N → hasD D n (zs.getD m 0) = false)
  | 0 => ⟨0, Nat.le_refl _, fun j hj => absurd hj (by omega), fun h => absurd h (by omega)⟩
  | N + 1 => by
    obtain ⟨m, h1, h2, h3⟩ := first_away D n zs N
    by_cases hm : m < N
    · exact ⟨m, by omega, h2, fun _ => h3 hm⟩
    · have hm2 : m = N := by omega
      subst hm2
      cases e : hasD D n (zs.getD m 0) with
      | true =>
        refine ⟨m + 1, Nat.le_refl _, fun j hj => ?_, fun h => absurd h (by omega)⟩
        by_cases e2 : j = m
        · subst e2; exact e
        · exact h2 j (by omega)
      | false => exact ⟨m, by omega, h2, fun _ => e⟩

/-- The bytes of a digest that is there. -/
def bytesAt (D : Nat → Int) (P : Nat → List Int) (n : Nat) (z : Int) : List Int := match (List.range n).find? (fun i => D i == z) with | some i => P i | none => []
theorem bytesAt_ok {D : Nat → Int} {P : Nat → List Int} {n : Nat} {z : Int} (h : hasD D n z = true) : ∃ i, i < n ∧ D i = z ∧ P i = bytesAt D P n z := by
  unfold bytesAt
  cases e : (List.range n).find? (fun i => D i == z) with
  | some i => exact ⟨i, by have := List.mem_of_find?_eq_some e; simpa using this, by have := List.find?_some e; simpa using this, rfl⟩
  | none =>
    obtain ⟨i, hi, hd⟩ := hasD_true h
    have := List.find?_eq_none.1 e i (by simpa using hi)
    simp [hd] at this

theorem firstBad_all {f : Nat → Option Int} : ∀ (m i : Nat), (∀ j, i ≤ j → j < i + m → f j = none) → firstBad f i m = 0
  | 0, _, _ => rfl
  | m + 1, i, h => by
    simp only [firstBad, h i (Nat.le_refl _) (by omega)]
    exact firstBad_all m (i + 1) (fun j h1 h2 => h j (by omega) (by omega))
theorem getD_range (f : Nat → Int) {N k : Nat} (hk : k < N) : ((List.range N).map f).getD k 0 = f k := by
  simp [List.getD_eq_getElem?_getD, hk]
theorem digs_getD (zs : List Int) {N k : Nat} (hk : k < N) : (digs zs N).getD k 0 = digest (piece zs k) := getD_range (fun i => digest (piece zs i)) hk
theorem asked_digs (zs : List Int) {N : Nat} (hN : N ≤ 3) : asked (digs zs N) = 0 := by
  unfold asked
  rw [if_neg (by rw [digs_length]; omega), digs_length]
  refine firstBad_all N 0 (fun j _ hj => ?_)
  have hr := digest_range (piece zs j)
  exact digFault_ok (digs_getD zs (by omega)) hr.1 hr.2
theorem both_digs {F : Int} (zs : List Int) {N : Nat} (hN : N ≤ 3) (hF : F = 0) : both F (digs zs N) = 0 := by
  unfold both
  rw [if_pos hF]
  exact asked_digs zs hN

set_option maxRecDepth 100000 in
set_option maxHeartbeats 800000 in
theorem lwNums_same (a b : Option Addr) (c1 c2 : Nat) (ms : List Int) (w : World) (h : Reads .i64 w a ms) (h2 : Reads .i64 w b ms) (hl : ms.length ≤ 1048576) :
    Calls Try.prog 28 #[.slice a ms.length c1, .slice b ms.length c2] w fun e w' => e = .returned (.bool true) ∧ Below w.heap.size w w' := by
  have HA := hide h
  have HB := hide h2
  clear h h2
  go_enter Try.func28, Try.ntmps28
  go_wp2
  go_loopw [5] (fun i wr => ∃ k : Nat, k ≤ ms.length ∧ i = .int .i64 k ∧ Below w.heap.size w wr) (fun i _ => ms.length - (intOf i).toNat)
  case atStart => exact ⟨0, Nat.zero_le _, rfl, Below.refl _ _⟩
  case round =>
    obtain ⟨k, hk, rfl, hbel⟩ := hrel
    have HW := hide hbel
    clear hbel
    by_cases hlt : k < ms.length
    · have h0 : ms ≠ [] := fun e => by subst e; simp at hlt
      obtain ⟨b1, o1, rfl, hb1, hc1⟩ := (HA.out.below HW.out) h0
      obtain ⟨b2, o2, rfl, hb2, hc2⟩ := (HB.out.below HW.out) h0
      have e1 := hc1 k hlt
      have e2 := hc2 k hlt
      generalize ms.getD k 0 = z at e1 e2
      have hk0 : (0 : Int) ≤ (k : Int) := by omega
      have hk1 : (k : Int) < (ms.length : Int) := by omega
      have hzz : (z != z) = false := by simp
      clear hc1 hc2 h0
      go_wp2
      go_quiet (fail)
      go_wp2
      go_roundw
      case rel => exact ⟨k + 1, by omega, by go_num, below_drewN HW.out _⟩
      case measure => simp [intOf]; omega
    · have hke : k = ms.length := by omega
      subst hke
      go_wp2
      go_ret
      exact ⟨rfl, HW.out⟩
end Go.Proofs.Ytdebojhginiihaa
