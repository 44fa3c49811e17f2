/-
  What is missing: contracts of the model's and the program's MissingOf.
-/
import Derived.Test.YtdebojhginiihaaAsked
namespace Go.Proofs.Ytdebojhginiihaa
open Go.RowKit Go.Maps
set_option linter.unusedVariables false

/-- Is there a chunk of digest z? -/
def hasD (D : Nat → Int) (n : Nat) (z : Int) : Bool := (List.range n).any fun i => D i == z
theorem hasD_true {D : Nat → Int} {n : Nat} {z : Int} (h : hasD D n z = true) : ∃ i, i < n ∧ D i = z := by
  simpa [hasD] using h
theorem hasD_false {D : Nat → Int} {n : Nat} {z : Int} (h : hasD D n z = false) : ∀ i, i < n → D i ≠ z := by
  simpa [hasD] using h
/-- The least place of digest z. -/
theorem first_at {D : Nat → Int} {z : Int} : ∀ {n : Nat}, (∃ i, i < n ∧ D i = z) → ∃ i, i < n ∧ D i = z ∧ ∀ j, j < i → D j ≠ z
  | 0, ⟨i, hi, _⟩ => by omega
  | n + 1, ⟨i, hi, e⟩ => by
    by_cases h : ∃ i, i < n ∧ D i = z
    · obtain ⟨j, h1, h2, h3⟩ := first_at h
      exact ⟨j, by omega, h2, h3⟩
    · have hin : i = n := by
        rcases Nat.lt_or_ge i n with h' | h'
        · exact absurd ⟨i, h', e⟩ h
        · omega
      subst hin
      exact ⟨i, by omega, e, fun j hj ej => h ⟨j, hj, ej⟩⟩

/-- What is missing of the first k of zs. -/
def miss (D : Nat → Int) (n : Nat) (zs : List Int) : Nat → List Int
  | 0 => []
  | k + 1 => if hasD D n (zs.getD k 0) || (miss D n zs k).contains (zs.getD k 0) then miss D n zs k else miss D n zs k ++ [zs.getD k 0]
theorem miss_length (D : Nat → Int) (n : Nat) (zs : List Int) : ∀ k, (miss D n zs k).length ≤ k
  | 0 => Nat.le_refl _
  | k + 1 => by
    have := miss_length D n zs k
    unfold miss
    split
    · omega
    · simp; omega
theorem miss_stay {D : Nat → Int} {n : Nat} {zs : List Int} {k : Nat} {z : Int} (hz : zs.getD k 0 = z) (h : hasD D n z = true ∨ (miss D n zs k).contains z = true) : miss D n zs (k + 1) = miss D n zs k := by
  simp only [miss]; rw [hz, if_pos (by simpa using h)]
theorem miss_more {D : Nat → Int} {n : Nat} {zs : List Int} {k : Nat} {z : Int} (hz : zs.getD k 0 = z) (h : hasD D n z = false) (h2 : (miss D n zs k).contains z = false) : miss D n zs (k + 1) = miss D n zs k ++ [z] := by
  simp only [miss]; rw [hz, if_neg (by rw [h, h2]; simp)]

theorem contains_upto {ms : List Int} {z : Int} (h : ∀ j, j < ms.length → ms.getD j 0 ≠ z) : ms.contains z = false := by
  simp only [List.contains_eq_mem, decide_eq_false_iff_not]
  intro hm
  obtain ⟨j, hj, e⟩ := List.mem_iff_getElem.1 hm
  exact h j hj (by simp [List.getD_eq_getElem?_getD, hj, e])
theorem contains_hit {ms : List Int} {z : Int} {j : Nat} (hj : j < ms.length) (h : ms.getD j 0 = z) : ms.contains z = true := by
  simp only [List.contains_eq_mem, decide_eq_true_eq]
  have : ms.getD j 0 = ms[j] := by simp [List.getD_eq_getElem?_getD, hj]
  rw [← h, this]
  exact List.getElem_mem hj

set_option maxRecDepth 100000 in
set_option maxHeartbeats 800000 in
theorem l2Among_any (a : Option Addr) (c : Nat) (ms : List Int) (z : Int) (w : World) (h : Reads .i64 w a ms) (hl : ms.length ≤ 1048576) :
    Calls Try.prog 62 #[.slice a ms.length c, .int .i64 z] w fun e w' => e = .returned (.bool (ms.contains z)) ∧ w' = w := by
  have HA := hide h
  clear h
  generalize hr : ms.contains z = r
  have HR := hide hr
  clear hr
  go_enter Try.func62, Try.ntmps62
  go_wp2
  go_loop [5] (fun i => ∃ k : Nat, k ≤ ms.length ∧ i = .int .i64 k ∧ ∀ j, j < k → ms.getD j 0 ≠ z) (fun i => ms.length - (intOf i).toNat)
  case atStart => exact ⟨0, Nat.zero_le _, rfl, fun j hj => absurd hj (by omega)⟩
  case round =>
    obtain ⟨k, hk, rfl, hF⟩ := hrel
    have HF := hide hF
    clear hF
    by_cases hlt : k < ms.length
    · obtain ⟨b, off, rfl, hb1, hc⟩ := HA.out (by intro e; simp [e] at hlt)
      have hc1 := hc k hlt
      generalize hy : ms.getD k 0 = y at hc1
      have HY := hide hy
      clear hy hc
      by_cases e : y = z
      · have e' : (y == z) = true := by simpa using e
        have HE := hide e
        clear e
        go_wp2
        go_ret
        exact ⟨ret_bool (by rw [← HR.out]; exact (contains_hit hlt (HY.out.trans HE.out)).symm), rfl⟩
      · have e' : (y == z) = false := by simpa using e
        go_wp2
        go_round
        case rel => exact ⟨k + 1, by omega, by go_num, fun j hj => by
          by_cases ej : j = k
          · subst ej; rw [HY.out]; exact e
          · exact HF.out j (by omega)⟩
        case measure => simp [intOf]; omega
    · go_wp2
      go_ret
      exact ⟨ret_bool (by rw [← HR.out]; exact (contains_upto (fun j hj => HF.out j (by omega))).symm), rfl⟩

set_option maxRecDepth 100000 in
set_option maxHeartbeats 800000 in
theorem slIndex_any (a : Option Addr) (c : Nat) (ms : List Int) (z : Int) (w : World) (h : Reads .i64 w a ms) (hl : ms.length ≤ 1048576) :
    Calls Try.prog 60 #[.slice a ms.length c, .int .i64 z] w fun e w' => (∃ i : Int, e = .returned (.int .i64 i) ∧ decide (0 ≤ i) = ms.contains z ∧ -1 ≤ i ∧ i ≤ 1048576) ∧ w' = w := by
  have HA := hide h
  clear h
  generalize hr : ms.contains z = r
  have HR := hide hr
  clear hr
  go_enter Try.func60, Try.ntmps60
  go_wp2
  go_loop [5, 8] (fun _ i => ∃ k : Nat, k ≤ ms.length ∧ i = .int .i64 k ∧ ∀ j, j < k → ms.getD j 0 ≠ z) (fun _ i => ms.length - (intOf i).toNat)
  case atStart => exact ⟨0, Nat.zero_le _, rfl, fun j hj => absurd hj (by omega)⟩
  case round =>
    obtain ⟨k, hk, rfl, hF⟩ := hrel
    have HF := hide hF
    clear hF
    by_cases hlt : k < ms.length
    · obtain ⟨b, off, rfl, hb1, hc⟩ := HA.out (by intro e; simp [e] at hlt)
      have hc1 := hc k hlt
      generalize hy : ms.getD k 0 = y at hc1
      have HY := hide hy
      clear hy hc
      by_cases e : y = z
      · have e' : (z == y) = true := by simpa using e.symm
        have HE := hide e
        clear e
        go_wp2
        go_ret
        exact ⟨⟨_, rfl, by rw [← HR.out, contains_hit hlt (HY.out.trans HE.out)]; simp, by omega, by omega⟩, rfl⟩
      · have e' : (z == y) = false := by simpa using fun h => e h.symm
        go_wp2
        go_round
        case rel => exact ⟨k + 1, by omega, by go_num, fun j hj => by
          by_cases ej : j = k
          · subst ej; rw [HY.out]; exact e
          · exact HF.out j (by omega)⟩
        case measure => simp [intOf]; omega
    · go_wp2
      go_ret
      exact ⟨⟨_, rfl, by rw [← HR.out, contains_upto (fun j hj => HF.out j (by omega))]; simp, by omega, by omega⟩, rfl⟩

set_option maxRecDepth 100000 in
set_option maxHeartbeats 800000 in
theorem slContains_any (a : Option Addr) (c : Nat) (ms : List Int) (z : Int) (w : World) (h : Reads .i64 w a ms) (hl : ms.length ≤ 1048576) :
    Calls Try.prog 49 #[.slice a ms.length c, .int .i64 z] w fun e w' => e = .returned (.bool (ms.contains z)) ∧ w' = w := by
  have HC := hide (slIndex_any a c ms z w h hl)
  clear h
  generalize ms.contains z = r at *
  go_enter Try.func49, Try.ntmps49
  go_wp2_with fail
  refine HC.out.mono ?_
  rintro e w1 ⟨⟨i, rfl, hi, h1, h2⟩, rfl⟩
  subst hi
  go_wp2_with fail
  go_ret
  exact ⟨rfl, rfl⟩

set_option maxRecDepth 100000 in
set_option maxHeartbeats 1600000 in
theorem l2Missing_any (a : Option Addr) (c n : Nat) (D : Nat → Int) (P : Nat → List Int) (a2 : Option Addr) (c2 : Nat) (zs : List Int) (w : World) (h : RdC w a D P n) (hn : n ≤ 1048576) (h2 : Reads .i64 w a2 zs) (hl : zs.length ≤ 3) :
    Calls Try.prog 51 #[.slice a n c, .slice a2 zs.length c2] w fun e w' => ∃ v, e = .returned v ∧ w'.ownsRow w.heap.size 2 1 v (miss D n zs zs.length).length ((miss D n zs zs.length).map (Value.int .i64)) ∧ Below w.heap.size w w' := by
  obtain ⟨i1, ki, kz0, kz1, kz2⟩ := info_parts Try.infoI64
  have HA := hide h
  have HR := hide h2
  clear h h2
  go_enter Try.func51, Try.ntmps51
  go_wp2
  go_loopw [5, 6] (fun v i wr => ∃ j : Nat, j ≤ zs.length ∧ i = .int .i64 j ∧ wr.ownsRow w.heap.size 2 1 v (miss D n zs j).length ((miss D n zs j).map (Value.int .i64)) ∧ Below w.heap.size w wr) (fun _ i _ => zs.length - (intOf i).toNat)
  case atStart => exact ⟨0, Nat.zero_le _, rfl, World.ownsRow_made w #[] 0 (Nat.le_refl _) (Nat.zero_le _) rfl, below_alloc _ _⟩
  case round =>
    obtain ⟨j, hj, rfl, hown, hbel⟩ := hrel
    by_cases hlt : j < zs.length
    · obtain ⟨b, off, rfl, hb1, hc⟩ := HR.out (by intro e; simp [e] at hlt)
      have hc1 := (hbel.cell (p := ⟨b, off + j, none⟩) hb1).trans (hc j hlt)
      have hml := miss_length D n zs j
      obtain ⟨av, cv, rfl⟩ := ownsRow_shape hown
      have HS1 := hide (fun z hz => miss_stay (D := D) (n := n) (zs := zs) (k := j) (z := z) hz)
      have HS2 := hide (fun z hz => miss_more (D := D) (n := n) (zs := zs) (k := j) (z := z) hz)
      generalize hms : miss D n zs j = ms at *
      clear hms
      generalize hz : zs.getD j 0 = z at hc1
      have HZ := hide hz
      have HO := hide hown
      have HW := hide hbel
      have hsz := hbel.size
      have RM := hide (ownsRow_own hown rfl).reads
      have HAt := hide (HA.out.below hbel)
      have hm1 : ms.length + 1 ≤ maxLen := by unfold maxLen; omega
      have hm2 : (ms.length + 1) * 8 ≤ 140737488355328 := by omega
      clear hc hz hown hbel
      cases hh : hasD D n z with
      | true =>
        obtain ⟨i, hi, hd, hf⟩ := first_at (hasD_true hh)
        have HST := hide (HS1.out z HZ.out (.inl hh))
        have hi0 : ¬ (i : Int) < 0 := by omega
        have HAy := hide (l2At_yes a c n i z D P wr HAt.out hn hi hd hf)
        clear hh hd hf
        go_wp2_with (first | (go_at_call 58; refine HAy.out.mono ?_; rintro e w1 ⟨rfl, rfl⟩) | fail)
        go_roundw
        case rel => exact ⟨j + 1, by omega, by go_num, by rw [HST.out]; exact HO.out, HW.out⟩
        case measure => simp [intOf]; omega
      | false =>
        have HAn := hide (l2At_no a c n z D P wr HAt.out hn (hasD_false hh))
        have HAm := hide (l2Among_any av cv ms z wr RM.out (by omega))
        cases hcn : ms.contains z with
        | true =>
          have HST := hide (HS1.out z HZ.out (.inr hcn))
          rw [hcn] at HAm
          clear hh hcn
          go_wp2_with (first | (go_at_call 58; refine HAn.out.mono ?_; rintro e w1 ⟨rfl, rfl⟩) | (go_at_call 62; refine HAm.out.mono ?_; rintro e w1 ⟨rfl, rfl⟩) | fail)
          go_roundw
          case rel => exact ⟨j + 1, by omega, by go_num, by rw [HST.out]; exact HO.out, HW.out⟩
          case measure => simp [intOf]; omega
        | false =>
          have HST := hide (HS2.out z HZ.out hh hcn)
          rw [hcn] at HAm
          clear hh hcn
          go_wp2_with (first | (go_at_call 58; refine HAn.out.mono ?_; rintro e w1 ⟨rfl, rfl⟩) | (go_at_call 62; refine HAm.out.mono ?_; rintro e w1 ⟨rfl, rfl⟩) | (at_builtin; refine wpList_append_one rfl (.tmp 30) (.tmp 35) 29 rfl w.heap.size 2 i1 (.int .i64 0) 1 8 Try.underlying29 ki kz0 kz1 kz2 rfl (by decide) _ _ _ rfl HO.out rfl rfl (by intro u hu; simp at hu; subst hu; rfl) hm1 hm2 hsz ?_; intro v' w2 hown2 hkept; have O2 := hide hown2; have K2 := hide hkept; clear hown2 hkept) | fail)
          go_roundw
          case rel => exact ⟨j + 1, by omega, by go_num, by rw [HST.out]; simpa using O2.out, HW.out.trans (K2.out.below hsz (fun k hk hS => by have := (HO.out.lt _ hS).1; omega))⟩
          case measure => simp [intOf]; omega
    · have hje : j = zs.length := by omega
      subst hje
      go_wp2
      go_ret
      exact ⟨_, rfl, hown, hbel⟩

theorem below_after {B : Nat} {w w' w'' : World} (h : Below B w w') (k : Below w'.heap.size w' w'') (hB : B ≤ w'.heap.size := by omega) : Below B w w'' := h.trans (k.mono hB)

/-- A result of int64s: a code and numbers of its own. -/
def ResI (q : Int) (zs : List Int) (w : World) (e : Ending) (w' : World) : Prop :=
  ∃ a' c', e = .returned (.agg #[.int .i64 q, .slice a' zs.length c']) ∧ G1 w.heap.size w'.heap.size w' (.slice a' zs.length c') zs ∧ Below w.heap.size w w'
theorem G1.nil (B T : Nat) (w : World) : G1 B T w (.slice none 0 0) [] := ⟨World.ownsRow_nil _ _ _ _, fun b hb => by simp [Value.ownBlock] at hb⟩
theorem ResI.no {q : Int} {w w' : World} (h : Below w.heap.size w w') : ResI q [] w (.returned (.agg #[.int .i64 q, .slice none 0 0])) w' := ⟨none, 0, rfl, G1.nil _ _ _, h⟩

set_option maxRecDepth 100000 in
set_option maxHeartbeats 800000 in
theorem specMissingOf_bad (a : Option Addr) (c n : Nat) (D : Nat → Int) (P : Nat → List Int) (a2 : Option Addr) (c2 : Nat) (zs : List Int) (w : World) (h : RdC w a D P n) (hn : n ≤ 1048576) (hP : ∀ i, i < n → U8 (P i) ∧ (P i).length ≤ 1048576) (h2 : Reads .i64 w a2 zs) (hl : zs.length ≤ 1048576) (hF : both (fault D P n) zs ≠ 0) :
    Calls Try.prog 29 #[.slice a n c, .slice a2 zs.length c2] w (ResI (both (fault D P n) zs) [] w) := by
  have HC := hide (l2Both_any a c n D P a2 c2 zs (w.alloc (.cells #[.int .i64 0, .slice none 0 0] 31)) (h.below (below_alloc _ _)) hn hP (h2.below (below_alloc _ _)) hl)
  generalize both (fault D P n) zs = F at *
  have hne : (F != 0) = true := by simpa using hF
  clear h hP hF h2
  go_enter Try.func29, Try.ntmps29
  go_wp2_with fail
  refine HC.out.mono ?_
  rintro e w1 ⟨rfl, b1⟩
  obtain ⟨⟨q0, q1⟩, q2, q3⟩ := (Box.new w (.int .i64 0) (.slice none 0 0) 31).below b1
  have B1 := hide (below_next (below_alloc w (.cells #[.int .i64 0, .slice none 0 0] 31)) b1)
  clear b1 HC
  go_wp2_with fail
  exact bodyPost_ret (v := .agg #[.int .i64 F, .slice none 0 0]) (by simp [results, Try.results29, go_sem, q0, q1]) rfl (ResI.no ((B1.out.setCell (Nat.le_refl _) _).setCell (Nat.le_refl _) _))
set_option maxRecDepth 100000 in
set_option maxHeartbeats 800000 in
theorem implMissingOf_bad (a : Option Addr) (c n : Nat) (D : Nat → Int) (P : Nat → List Int) (a2 : Option Addr) (c2 : Nat) (zs : List Int) (w : World) (h : RdC w a D P n) (hn : n ≤ 1048576) (hP : ∀ i, i < n → U8 (P i) ∧ (P i).length ≤ 1048576) (h2 : Reads .i64 w a2 zs) (hl : zs.length ≤ 1048576) (hF : both (fault D P n) zs ≠ 0) :
    Calls Try.prog 27 #[.slice a n c, .slice a2 zs.length c2] w (ResI (both (fault D P n) zs) [] w) := by
  have HC := hide (askedFault_any a c n D P a2 c2 zs (w.alloc (.cells #[.int .i64 0, .slice none 0 0] 31)) (h.below (below_alloc _ _)) hn hP (h2.below (below_alloc _ _)) hl)
  generalize both (fault D P n) zs = F at *
  have hne : (F != 0) = true := by simpa using hF
  clear h hP hF h2
  go_enter Try.func27, Try.ntmps27
  go_wp2_with fail
  refine HC.out.mono ?_
  rintro e w1 ⟨rfl, b1⟩
  obtain ⟨⟨q0, q1⟩, q2, q3⟩ := (Box.new w (.int .i64 0) (.slice none 0 0) 31).below b1
  have B1 := hide (below_next (below_alloc w (.cells #[.int .i64 0, .slice none 0 0] 31)) b1)
  clear b1 HC
  go_wp2_with fail
  exact bodyPost_ret (v := .agg #[.int .i64 F, .slice none 0 0]) (by simp [results, Try.results27, go_sem, q0, q1]) rfl (ResI.no ((B1.out.setCell (Nat.le_refl _) _).setCell (Nat.le_refl _) _))

theorem both_zero {F : Int} {zs : List Int} (h : both F zs = 0) : F = 0 ∧ asked zs = 0 := by
  unfold both at h
  split at h
  · rename_i e; exact ⟨e, h⟩
  · rename_i e; exact absurd h e

set_option maxRecDepth 100000 in
set_option maxHeartbeats 800000 in
theorem specMissingOf_ok (a : Option Addr) (c n : Nat) (D : Nat → Int) (P : Nat → List Int) (a2 : Option Addr) (c2 : Nat) (zs : List Int) (w : World) (h : RdC w a D P n) (hn : n ≤ 1048576) (hP : ∀ i, i < n → U8 (P i) ∧ (P i).length ≤ 1048576) (h2 : Reads .i64 w a2 zs) (hl : zs.length ≤ 1048576) (hF : both (fault D P n) zs = 0) :
    Calls Try.prog 29 #[.slice a n c, .slice a2 zs.length c2] w (ResI 0 (miss D n zs zs.length) w) := by
  have hfl := l2Both_any a c n D P a2 c2 zs (w.alloc (.cells #[.int .i64 0, .slice none 0 0] 31)) (h.below (below_alloc _ _)) hn hP (h2.below (below_alloc _ _)) hl
  rw [hF] at hfl
  have hl3 := (asked_zero (both_zero hF).2).1
  have HC := hide hfl
  have HA := hide h
  have HR := hide h2
  clear h hP hF h2 hfl
  go_enter Try.func29, Try.ntmps29
  go_wp2_with fail
  refine HC.out.mono ?_
  rintro e w1 ⟨rfl, b1⟩
  have X1 := hide ((Box.new w (.int .i64 0) (.slice none 0 0) 31).below b1)
  have hs1 : w.heap.size < w1.heap.size := by have := b1.size; simp at this; omega
  have B1 := hide (below_next (below_alloc w (.cells #[.int .i64 0, .slice none 0 0] 31)) b1)
  clear b1 HC
  go_wp2_with fail
  refine (l2Missing_any a c n D P a2 c2 zs w1 (HA.out.below B1.out) hn (HR.out.below B1.out) hl3).mono ?_
  rintro e w2 ⟨v, rfl, hown, b2⟩
  obtain ⟨av, cv, rfl⟩ := ownsRow_shape hown
  generalize miss D n zs zs.length = ms at *
  have HO := hide hown
  obtain ⟨⟨q0, q1⟩, q2, q3⟩ := X1.out.below b2
  have B2 := hide (below_next B1.out b2)
  clear hown b2 X1
  go_wp2_with fail
  refine bodyPost_ret (v := .agg #[.int .i64 0, .slice av ms.length cv]) (by simp [results, Try.results29, go_sem, q0, q1]) rfl ⟨_, _, rfl, ?_, (B2.out.setCell (Nat.le_refl _) _).setCell (Nat.le_refl _) _⟩
  exact G1.mk (ownsRow_mono (ownsRow_kept (S := fun b => b = w.heap.size) HO.out (Kept.two _ _ _ _ _ _) (fun b hb e => by have := (HO.out.lt b hb).1; omega)) (by omega)) rfl

set_option maxRecDepth 100000 in
set_option maxHeartbeats 3200000 in
theorem implMissingOf_ok (a : Option Addr) (c n : Nat) (D : Nat → Int) (P : Nat → List Int) (a2 : Option Addr) (c2 : Nat) (zs : List Int) (w : World) (h : RdC w a D P n) (hn : n ≤ 1048576) (hP : ∀ i, i < n → U8 (P i) ∧ (P i).length ≤ 1048576) (h2 : Reads .i64 w a2 zs) (hl : zs.length ≤ 1048576) (hF : both (fault D P n) zs = 0) :
    Calls Try.prog 27 #[.slice a n c, .slice a2 zs.length c2] w (ResI 0 (miss D n zs zs.length) w) := by
  obtain ⟨i1, ki, kz0, kz1, kz2⟩ := info_parts Try.infoI64
  have hfl := askedFault_any a c n D P a2 c2 zs (w.alloc (.cells #[.int .i64 0, .slice none 0 0] 31)) (h.below (below_alloc _ _)) hn hP (h2.below (below_alloc _ _)) hl
  rw [hF] at hfl
  obtain ⟨hl3, hrg⟩ := asked_zero (both_zero hF).2
  have HRt := hide (fault_zero (both_zero hF).1)
  have HRg := hide hrg
  have HC := hide hfl
  have HA := hide h
  have HR := hide h2
  clear h hP hF h2 hfl hrg
  go_enter Try.func27, Try.ntmps27
  go_wp2_with fail
  refine HC.out.mono ?_
  rintro e w1 ⟨rfl, b1⟩
  have X1 := hide ((Box.new w (.int .i64 0) (.slice none 0 0) 31).below b1)
  have hs1 : w.heap.size < w1.heap.size := by have := b1.size; simp at this; omega
  have B1 := hide (below_next (below_alloc w (.cells #[.int .i64 0, .slice none 0 0] 31)) b1)
  clear b1 HC
  go_wp2_with fail
  refine (mapChunks_any a c n D P w1 (HA.out.below B1.out) HRt.out).mono ?_
  rintro e w2 ⟨bm, rfl, hbm, hH2, b2⟩
  have H2 := hide hH2
  have X2 := hide (X1.out.below b2)
  have hs2 : w.heap.size < w2.heap.size := by have := b2.size; omega
  have B2 := hide (below_next B1.out b2)
  have R2 := hide (HR.out.below B2.out)
  clear b2 hH2 X1 B1
  go_wp2
  go_loopw [7, 9, 10, 11, 23] (fun v _ _ _ i wr => ∃ j : Nat, j ≤ zs.length ∧ i = .int .i64 j ∧ wr.ownsRow w2.heap.size 2 1 v (miss D n zs j).length ((miss D n zs j).map (Value.int .i64)) ∧ Below w2.heap.size w2 wr) (fun _ _ _ _ i _ => zs.length - (intOf i).toNat)
  case atStart => exact ⟨0, Nat.zero_le _, rfl, World.ownsRow_nil _ _ _ _, Below.refl _ _⟩
  case round =>
    obtain ⟨j, hj, rfl, hown, hbel⟩ := hrel
    obtain ⟨av, cv, rfl⟩ := ownsRow_shape hown
    by_cases hlt : j < zs.length
    · obtain ⟨b, off, rfl, hb1, hc⟩ := R2.out (by intro e; simp [e] at hlt)
      have hc1 := (hbel.cell (p := ⟨b, off + j, none⟩) hb1).trans (hc j hlt)
      have hml := miss_length D n zs j
      have hz01 := HRg.out j hlt
      have HS1 := hide (fun z hz => miss_stay (D := D) (n := n) (zs := zs) (k := j) (z := z) hz)
      have HS2 := hide (fun z hz => miss_more (D := D) (n := n) (zs := zs) (k := j) (z := z) hz)
      generalize hms : miss D n zs j = ms at *
      clear hms
      generalize hz : zs.getD j 0 = z at hc1 hz01
      have hwf := i64_wf hz01.1 hz01.2
      have HZ := hide hz
      have HO := hide hown
      have HW := hide hbel
      have hsz := hbel.size
      have HHw := hide (H2.out.below hbel)
      have hm1 : ms.length + 1 ≤ maxLen := by unfold maxLen; omega
      have hm2 : (ms.length + 1) * 8 ≤ 140737488355328 := by omega
      clear hc hz hown hbel
      cases hh : hasD D n z with
      | true =>
        obtain ⟨i, hi, hd⟩ := hasD_true hh
        obtain ⟨a3, c3, hrun, -⟩ := HHw.out.yes (lst_mem.2 ⟨i, hi, by rw [hd]⟩ : (z, P i) ∈ lst D P n) hwf 74 Try.underlying74
        have HL := hide (hrun true)
        have HST := hide (HS1.out z HZ.out (.inl hh))
        generalize (P i).length = pl at *
        clear hh hd hrun
        go_wp2_with (first | (at_lookup; refine wpList_look rfl _ _ 74 true rfl _ _ _ rfl rfl HL.out ?_; simp only [chv, if_true]) | fail)
        go_roundw
        case rel => exact ⟨j + 1, by omega, by go_num, by rw [HST.out]; exact ownsRow_below HO.out (below_alloc _ _), below_after HW.out (below_alloc _ _)⟩
        case measure => simp [intOf]; omega
      | false =>
        have HL := hide (HHw.out.no (by intro hm; obtain ⟨i, hi, e⟩ := lst_key.1 hm; exact hasD_false hh i hi e) hwf 74 Try.underlying74)
        have HO1 := hide (ownsRow_below HO.out (below_alloc wr (.cells #[.int .i64 0, .slice none 0 0] 53)))
        have HAm := hide (slContains_any av cv ms z _ (ownsRow_own HO1.out rfl).reads (by omega))
        have hsz1 : w2.heap.size ≤ (wr.alloc (.cells #[.int .i64 0, .slice none 0 0] 53)).heap.size := by simp; omega
        cases hcn : ms.contains z with
        | true =>
          have HST := hide (HS1.out z HZ.out (.inr hcn))
          rw [hcn] at HAm
          clear hh hcn
          go_wp2_with (first | (at_lookup; refine wpList_look rfl _ _ 74 true rfl _ _ _ rfl rfl HL.out ?_) | (go_at_call 49; refine HAm.out.mono ?_; rintro e w1 ⟨rfl, rfl⟩) | fail)
          go_roundw
          case rel => exact ⟨j + 1, by omega, by go_num, by rw [HST.out]; exact HO1.out, below_after HW.out (below_alloc _ _)⟩
          case measure => simp [intOf]; omega
        | false =>
          have HST := hide (HS2.out z HZ.out hh hcn)
          rw [hcn] at HAm
          clear hh hcn
          go_wp2_with (first | (at_lookup; refine wpList_look rfl _ _ 74 true rfl _ _ _ rfl rfl HL.out ?_) | (go_at_call 49; refine HAm.out.mono ?_; rintro e w1 ⟨rfl, rfl⟩) | (at_builtin; refine wpList_append_at rfl (.tmp 41) (.tmp 43) 29 rfl w2.heap.size 2 i1 (.int .i64 0) 1 8 Try.underlying29 ki kz0 kz1 kz2 rfl (by decide) _ _ _ rfl HO1.out (wr.heap.size + 1) (by simp) rfl rfl (by intro u hu; simp at hu; subst hu; rfl) hm1 hm2 hsz1 ?_; intro v' w3 hown2 hkept; have O2 := hide hown2; have K2 := hide hkept; clear hown2 hkept) | fail)
          go_roundw
          case rel => exact ⟨j + 1, by omega, by go_num, by rw [HST.out]; simpa using O2.out, (below_after HW.out (below_alloc _ _)).trans (K2.out.below hsz1 (fun k hk hS => by have := (HO1.out.lt _ hS).1; omega))⟩
          case measure => simp [intOf]; omega
    · have hje : j = zs.length := by omega
      subst hje
      generalize miss D n zs zs.length = ms at *
      obtain ⟨⟨q0, q1⟩, q2, q3⟩ := X2.out.below hbel
      have HO := hide hown
      have HW := hide (below_next B2.out hbel)
      clear hown hbel
      go_wp2
      refine bodyPost_ret (v := .agg #[.int .i64 0, .slice av ms.length cv]) (by simp [results, Try.results27, go_sem, q0, q1]) rfl ⟨_, _, rfl, ?_, (HW.out.setCell (Nat.le_refl _) _).setCell (Nat.le_refl _) _⟩
      exact G1.mk (ownsRow_mono (ownsRow_kept (S := fun b => b = w.heap.size) HO.out (Kept.two _ _ _ _ _ _) (fun b hb e => by have := (HO.out.lt b hb).1; omega)) (by omega)) rfl

end Go.Proofs.Ytdebojhginiihaa
