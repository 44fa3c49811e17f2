/-
  At every byte slice the law FnCopies returns true: what is copied up is seen as before. No condition.
-/
import Derived.Test.YtebgfaohhhgdpaaGreatKCopies21
import Derived.Test.YtebgfaohhhgdpaaGreatKCopies20
import Derived.ProofKit
import Derived.Deep.CutRange
import Derived.OpenShut
import Derived.ShutString
import Derived.ChangeOld
import Derived.Deep.DrawnRows
import Derived.Deep.RegionHeld3
namespace Go.Proofs.YtebgfaohhhgdpaaGreat.fnCopies
open Go.ChangeShapes Go.WideShapes Go.ChangeAt Go.RowKit Go.Maps
set_option linter.unusedVariables false
attribute [local go_sem ↓] Go.wp_at_zero Go.wp_at_succ

theorem own : ownKnob Tryz.prog.godebug = none := by kernel_rfl
theorem laidOut : laidOutB Tryz.prog = true := by kernel_rfl

theorem lwBig_no (a : Option Addr) (cap : Nat) (n : Nat) (w : World) (h : n ≤ 1048576) :
    Calls Tryz.prog 5 #[.slice a n cap] w fun e w' => e = .returned (.bool false) ∧ w' = w := by
  have hb : ¬ (1048576 : Int) < (n : Int) := by omega
  go_enter Tryz.func5, Tryz.ntmps5
  go_wp2
  go_ret
  exact ⟨ret_bool (by simp <;> omega), rfl⟩
theorem lwBig_yes (a : Option Addr) (cap : Nat) (n : Nat) (w : World) (h : 1048576 < n) (h2 : n ≤ maxLen) :
    Calls Tryz.prog 5 #[.slice a n cap] w fun e w' => e = .returned (.bool true) ∧ w' = w := by
  have hb : (1048576 : Int) < (n : Int) := by omega
  unfold maxLen at h2
  go_enter Tryz.func5, Tryz.ntmps5
  go_wp2
  go_ret
  exact ⟨ret_bool (by simp <;> omega), rfl⟩

/-- What the law asks of lists where nothing is told. -/
theorem copies_of {ls : List (List En)} {U V : List En} {p : Bs} (h : CpyOf ls U p 0 0 V) (hm : malC (ls ++ [U]) = 0) : (malC (ls ++ [V]) = 0 ∧ malL (ls ++ [V]) = malL (ls ++ [U])) ∧ (findCodeP V p = 0 ∧ layFaultP V = 0) ∧ (0 < V.length ∧ V.length ≤ 12 ∧ SmallE V) ∧ (malL (ls ++ [U])).length ≤ 40 ∧ SmallE (malL (ls ++ [U])) := by
  obtain ⟨hz, hR, hf, hall⟩ := cpy_view h
  obtain ⟨-, hm2, hm3⟩ := mal_zero hm
  obtain ⟨hu1, hu2⟩ := mal_up hm hR (by rw [hall]; exact hm3)
  obtain ⟨-, -, hp, -⟩ := parts_of hz
  have hrt := (overs_of hm).right
  refine ⟨⟨hu1, by rw [hu2, hall, hm2]⟩, ⟨(findCode_iff hR hp).2 hf, right_P.2 hR⟩, ⟨?_, hR.len, right_small hR⟩, by rw [hm2]; exact hm3, by rw [hm2]; exact (rightT_fit.1 hrt).1.fit.small⟩
  cases V with
  | nil => exact absurd rfl hf
  | cons x V => simp
set_option maxRecDepth 100000 in
set_option maxHeartbeats 25600000 in
theorem walk (a0 : Option Addr) (cap0 : Nat) (zs : List Int) (w : World) (h : Reads .u8 w a0 zs) (hu : U8 zs) (hmax : zs.length ≤ maxLen) :
    Calls Tryz.prog 4 #[.slice a0 zs.length cap0] w fun e w' => e = .returned (.bool true) ∧ Below w.heap.size w w' := by
  have HR := hide h
  have HU := hide hu
  clear h hu
  by_cases hbig : 1048576 < zs.length
  · go_enter Tryz.func4, Tryz.ntmps4
    go_wp2_with fail
    refine (lwBig_yes _ _ _ _ hbig hmax).mono ?_
    rintro e w ⟨rfl, rfl⟩
    go_wp2_with fail
    go_ret
    exact ⟨rfl, Below.refl _ _⟩
  · go_enter Tryz.func4, Tryz.ntmps4
    go_wp2_with fail
    refine (lwBig_no _ _ _ _ (by omega)).mono ?_
    rintro e w ⟨rfl, rfl⟩
    go_wp2_with fail
    refine (drawCopyUp_any a0 cap0 zs _ HR.out HU.out (by omega)).mono ?_
    rintro e w1 ⟨ls, av, cv, n, U, ua, uc, p, rfl, rfl, hrl, hgl, hru, hgu, hpl, hb1⟩
    have h5 := hgl.1
    have h13 := hgu.1
    have RL := hide hrl
    have RU := hide hru
    have HSL := hide hgl.2.1
    have HSU := hide hgu.2.1
    have HAL := hide (smallL_snoc hgl.2.1 (by omega) hgu.2.1)
    have HGD : Hid (∀ es ∈ ls ++ [U], layFault es = layFaultP es) := hide (fun es he => by
      rcases List.mem_append.1 he with he | he
      · exact (hgl.2.2 es he).2
      · simp at he; subst he; exact hgu.2.2)
    have B1 := hide hb1
    clear hrl hgl hru hgu hb1 HR HU hbig hmax
    go_wp2_with fail
    refine (implCopyUp_any av cv ls.length ls ua uc U.length U p w1 RL.out rfl (by omega) HSL.out RU.out rfl (by omega) HSU.out hpl).mono ?_
    rintro r w2 ⟨q, rep, V, hcp, va, vc, rfl, hG2, hb2⟩
    have A2 := hide (below_alloc w2 (.cells #[.int .i64 q, .int .i64 rep, .slice va V.length vc] 32))
    have X2 := hide (Box3.new w2 (.int .i64 q) (.int .i64 rep) (.slice va V.length vc) 32)
    have BW2 := hide (below_next hb2 A2.out)
    have B2 := hide (below_next B1.out BW2.out)
    have RV2 := hide (hG2.rd.below A2.out)
    have RL2 := hide (RL.out.below BW2.out)
    have RU2 := hide (RU.out.below BW2.out)
    have HCP := hide hcp
    clear hcp hG2 hb2 A2 BW2 B1 RL RU
    obtain ⟨⟨t0, t1, t2⟩, t3, t4, t5⟩ := X2.out
    go_wp2_with fail
    clear t0 t1 t2 t3 t4 t5
    generalize w2.alloc (.cells #[.int .i64 q, .int .i64 rep, .slice va V.length vc] 32) = W2 at *
    generalize w2.heap.size = b2 at *
    refine (specCopyUp_any av cv ls.length ls ua uc U.length U p W2 RL2.out rfl (by omega) RU2.out rfl HAL.out HGD.out hpl).mono ?_
    rintro r w3 ⟨q2, rep2, V2, hfc, xa, xc, rfl, hG3, hb3⟩
    obtain ⟨rfl, rfl, rfl⟩ := cpy_same HCP.out hfc
    have A3 := hide (below_alloc w3 (.cells #[.int .i64 q, .int .i64 rep, .slice xa V.length xc] 32))
    have X3 := hide (Box3.new w3 (.int .i64 q) (.int .i64 rep) (.slice xa V.length xc) 32)
    have BW3 := hide (below_next hb3 A3.out)
    have B3 := hide (below_next B2.out BW3.out)
    have X23 := hide (X2.out.below BW3.out)
    have RV3 := hide (RV2.out.below BW3.out)
    have RL3 := hide (RL2.out.below BW3.out)
    have RU3 := hide (RU2.out.below BW3.out)
    clear hfc hG3 hb3 A3 BW3 B2 RL2 RU2 RV2 X2 HAL HGD
    obtain ⟨⟨t0, t1, t2⟩, t3, t4, t5⟩ := X3.out
    go_wp2_with fail
    clear t0 t1 t2 t3 t4 t5
    generalize w3.alloc (.cells #[.int .i64 q, .int .i64 rep, .slice xa V.length xc] 32) = W3 at *
    generalize w3.heap.size = b3 at *
    have HV := implViewOver_any av cv ls.length ls ua uc U.length U W3 RL3.out rfl (by omega) HSL.out RU3.out rfl (by omega) HSU.out
    obtain ⟨C, hC⟩ : ∃ C, C = malC (ls ++ [U]) := ⟨_, rfl⟩
    obtain ⟨T, hT⟩ : ∃ T, T = malL (ls ++ [U]) := ⟨_, rfl⟩
    rw [← hC, ← hT] at HV
    have HC := hide hC
    have HT := hide hT
    clear hC hT
    refine HV.mono ?_
    rintro r w4 ⟨ta, tc, rfl, hG4, hb4⟩
    have A4 := hide (below_alloc w4 (.cells #[.int .i64 C, .int .i64 0, .slice ta T.length tc] 29))
    have X4 := hide (Box3.new w4 (.int .i64 C) (.int .i64 0) (.slice ta T.length tc) 29)
    have BW4 := hide (below_next hb4 A4.out)
    have B4 := hide (below_next B3.out BW4.out)
    have X24 := hide (X23.out.below BW4.out)
    have X34 := hide (X3.out.below BW4.out)
    have RV4 := hide (RV3.out.below BW4.out)
    have RL4 := hide (RL3.out.below BW4.out)
    have RT4 := hide (hG4.rd.below A4.out)
    clear hG4 hb4 A4 BW4 B3 RL3 RU3 RV3 X23 X3 HV HSU
    obtain ⟨⟨t0, t1, t2⟩, t3, t4, t5⟩ := X4.out
    by_cases hok : (q = 0 ∧ rep = 0) ∧ C = 0
    · obtain ⟨⟨rfl, rfl⟩, rfl⟩ := hok
      obtain ⟨⟨p1, p2⟩, ⟨p3, p4⟩, ⟨p5, p6, p7⟩, p8, p9⟩ := copies_of HCP.out HC.out.symm
      rw [← HT.out] at p2 p8 p9
      have HSV := hide p7
      have HST := hide p9
      have P12 := hide (And.intro p1 p2)
      have P34 := hide (And.intro p3 p4)
      clear p1 p2 p3 p4 p7 p9 HCP HC HT
      obtain ⟨⟨r0, r1, r2⟩, -, -, -⟩ := X24.out
      obtain ⟨⟨s0, s1, s2⟩, -, -, -⟩ := X34.out
      go_wp2_with fail
      clear t0 t1 t2 t3 t4 t5 r0 r1 r2 s0 s1 s2
      generalize w4.alloc (.cells #[.int .i64 0, .int .i64 0, .slice ta T.length tc] 29) = W4 at *
      generalize w4.heap.size = b4 at *
      have KB : Hid (∀ w' : World, Below W4.heap.size W4 w' → w'.cell? ⟨b2, 2, none⟩ = some (.slice va V.length vc) ∧ w'.cell? ⟨b3, 2, none⟩ = some (.slice xa V.length xc) ∧ w'.cell? ⟨b4, 2, none⟩ = some (.slice ta T.length tc)) := hide (fun w' hb' => ⟨(X24.out.below hb').1.2.2, (X34.out.below hb').1.2.2, (X4.out.below hb').1.2.2⟩)
      have HV2 : Hid (∀ u : World, Below W4.heap.size W4 u → Calls Tryz.prog 7 #[.slice av ls.length cv, .slice va V.length vc] u fun r w' => ∃ tv tc2, r = .returned (.agg #[.int .i64 0, .int .i64 0, .slice tv T.length tc2]) ∧ RdE w' tv T ∧ Below u.heap.size u w') := hide (fun u hu => by
        have h1 := implViewOver_any av cv ls.length ls va vc V.length V u (RL4.out.below hu) rfl (by omega) HSL.out (RV4.out.below hu) rfl (by omega) HSV.out
        rw [P12.out.1, P12.out.2] at h1
        exact h1.mono (fun r w' ⟨tv, tc2, h2, h3, h4⟩ => ⟨tv, tc2, h2, h3.rd, h4⟩))
      have HSM : Hid (∀ (u : World) (tv : Option Addr) (tc2 : Nat), RdE u tv T → Below W4.heap.size W4 u → Calls Tryz.prog 18 #[.slice tv T.length tc2, .slice ta T.length tc] u fun r w' => r = .returned (.bool true) ∧ Below u.heap.size u w') := hide (fun u tv tc2 hr hu => by
        have h1 := implSameLayers_any tv ta tc2 tc T.length T.length T T u hr (RT4.out.below hu) rfl rfl (by omega) (by omega) HST.out HST.out
        rw [decide_eq_true rfl] at h1
        exact h1)
      have HEA : Hid (∀ u : World, Below W4.heap.size W4 u → Calls Tryz.prog 23 #[.slice va V.length vc, .string (str p)] u fun r w' => ∃ lv ln lc, r = .returned (.agg #[.int .i64 0, .slice lv ln lc]) ∧ Below u.heap.size u w') := hide (fun u hu => by
        have h1 := implEntryAt_any va vc V.length V p u (RV4.out.below hu) rfl (by omega) HSV.out hpl
        rw [P34.out.1] at h1
        exact h1.mono (fun r w' ⟨lv, lc, h2, _, h4⟩ => ⟨lv, _, lc, h2, h4⟩))
      have HLF : Hid (∀ u : World, Below W4.heap.size W4 u → Calls Tryz.prog 19 #[.slice va V.length vc] u fun r w' => r = .returned (.int .i64 0) ∧ Below u.heap.size u w') := hide (fun u hu => by
        have h1 := implLayerFault_any va vc V.length V u (RV4.out.below hu) rfl (by omega) HSV.out
        rw [P34.out.2] at h1
        exact h1)
      have hft : ∀ (w : World) (v : Value), (Instr.field 29 (.agg #[.int .i64 0, .int .i64 0, v]) 2).run Tryz.prog w = .ok v w := fun _ _ => by kernel_rfl
      have hfl : ∀ (w : World) (v : Value), (Instr.field 42 (.agg #[.int .i64 0, v]) 0).run Tryz.prog w = .ok (.int .i64 0) w := fun _ _ => by kernel_rfl
      have hv0 : (0 : Int) < (V.length : Int) := by omega
      refine wp_region_held_drew (S := fun w' => w'.cell? ⟨b2, 2, none⟩ = some (.slice va V.length vc) ∧ w'.cell? ⟨b3, 2, none⟩ = some (.slice xa V.length xc) ∧ w'.cell? ⟨b4, 2, none⟩ = some (.slice ta T.length tc)) (by kernel_rfl) (KB.out _ (Below.refl _ _).drew) (fun hHeld => ?_)
      change wpAnyH _ _ _ _ _ _ (Array.replicate _ false) _ _
      refine wpAnyH_take (i := 0) (oi := { dst := some 53, op := _, type := _, pos := _, after := _, guard := _ }) (v := .slice av ls.length cv) rfl (by kernel_rfl) (by kernel_rfl) (by kernel_rfl) (fun _ _ _ h => h) (Or.inl ⟨by rfl, ?_⟩) hHeld ?_
      · intro w hSw
        obtain ⟨q0, q1, q2⟩ := hSw
        go_simp <;> (first | done | (intro _; omega))
      try simp only [Act.put, List.setIfInBounds_toArray, List.set_cons_zero, List.set_cons_succ]
      refine wpAnyH_take (i := 1) (oi := { dst := some 54, op := _, type := _, pos := _, after := _, guard := _ }) (v := .pointer (some ⟨b2, 2, none⟩)) rfl (by kernel_rfl) (by kernel_rfl) (by kernel_rfl) (fun _ _ _ h => h) (Or.inl ⟨by rfl, ?_⟩) hHeld ?_
      · intro w hSw
        obtain ⟨q0, q1, q2⟩ := hSw
        go_simp <;> (first | done | (intro _; omega))
      try simp only [Act.put, List.setIfInBounds_toArray, List.set_cons_zero, List.set_cons_succ]
      refine wpAnyH_take (i := 2) (oi := { dst := some 55, op := _, type := _, pos := _, after := _, guard := _ }) (v := .slice va V.length vc) rfl (by kernel_rfl) (by kernel_rfl) (by kernel_rfl) (fun _ _ _ h => h) (Or.inl ⟨by rfl, ?_⟩) hHeld ?_
      · intro w hSw
        obtain ⟨q0, q1, q2⟩ := hSw
        go_simp <;> (first | done | (intro _; omega))
      try simp only [Act.put, List.setIfInBounds_toArray, List.set_cons_zero, List.set_cons_succ]
      refine wpAnyH_take (i := 5) (oi := { dst := some 58, op := _, type := _, pos := _, after := _, guard := _ }) (v := .pointer (some ⟨b4, 2, none⟩)) rfl (by kernel_rfl) (by kernel_rfl) (by kernel_rfl) (fun _ _ _ h => h) (Or.inl ⟨by rfl, ?_⟩) hHeld ?_
      · intro w hSw
        obtain ⟨q0, q1, q2⟩ := hSw
        go_simp <;> (first | done | (intro _; omega))
      try simp only [Act.put, List.setIfInBounds_toArray, List.set_cons_zero, List.set_cons_succ]
      refine wpAnyH_take (i := 6) (oi := { dst := some 59, op := _, type := _, pos := _, after := _, guard := _ }) (v := .slice ta T.length tc) rfl (by kernel_rfl) (by kernel_rfl) (by kernel_rfl) (fun _ _ _ h => h) (Or.inl ⟨by rfl, ?_⟩) hHeld ?_
      · intro w hSw
        obtain ⟨q0, q1, q2⟩ := hSw
        go_simp <;> (first | done | (intro _; omega))
      try simp only [Act.put, List.setIfInBounds_toArray, List.set_cons_zero, List.set_cons_succ]
      refine wpAnyH_ready (rs := [3]) (by kernel_rfl) (by simp) ?_
      refine AllReadyH.cons rfl (fun K hK => ?_) AllReadyH.nil
      go_simp
      refine (HV2.out _ (Below.refl _ _).drew).mono ?_
      rintro r w5 ⟨tv, tc2, rfl, hr5, hb5⟩
      have BB1 := hide ((Below.refl W4.heap.size W4).drew.trans hb5)
      have RT5 := hide hr5
      clear hr5 hb5
      go_wp2_with fail
      refine hK.out _ _ (KB.out _ BB1.out) (fun hHeld => ?_)
      clear hK K
      try simp only [Act.put, List.setIfInBounds_toArray, List.set_cons_zero, List.set_cons_succ]
      refine wpAnyH_take (i := 4) (oi := { dst := some 57, op := _, type := _, pos := _, after := _, guard := _ }) (v := .slice tv T.length tc2) rfl (by kernel_rfl) (by kernel_rfl) (by kernel_rfl) (fun _ _ _ h => h) (Or.inl ⟨by rfl, ?_⟩) hHeld ?_
      · intro w hSw
        obtain ⟨q0, q1, q2⟩ := hSw
        go_simp <;> (first | done | (intro _; omega))
      try simp only [Act.put, List.setIfInBounds_toArray, List.set_cons_zero, List.set_cons_succ]
      refine wpAnyH_ready (rs := [7]) (by kernel_rfl) (by simp) ?_
      refine AllReadyH.cons rfl (fun K hK => ?_) AllReadyH.nil
      go_simp
      refine (HSM.out _ tv tc2 RT5.out BB1.out).mono ?_
      rintro r w6 ⟨rfl, hb6⟩
      have BB2 := hide (below_next BB1.out hb6)
      clear hb6
      go_wp2_with fail
      refine hK.out _ _ (KB.out _ BB2.out) (fun hHeld => ?_)
      clear hK K
      try simp only [Act.put, List.setIfInBounds_toArray, List.set_cons_zero, List.set_cons_succ]
      refine wpAnyH_take (i := 8) (oi := { dst := some 61, op := _, type := _, pos := _, after := _, guard := _ }) (v := .bool true) rfl (by kernel_rfl) (by kernel_rfl) (by kernel_rfl) (fun _ _ _ h => h) (Or.inl ⟨by rfl, ?_⟩) hHeld ?_
      · intro w hSw
        obtain ⟨q0, q1, q2⟩ := hSw
        go_simp <;> (first | done | (intro _; omega))
      try simp only [Act.put, List.setIfInBounds_toArray, List.set_cons_zero, List.set_cons_succ]
      refine wpAnyH_take (i := 9) (oi := { dst := some 62, op := _, type := _, pos := _, after := _, guard := _ }) (v := .pointer (some ⟨b2, 2, none⟩)) rfl (by kernel_rfl) (by kernel_rfl) (by kernel_rfl) (fun _ _ _ h => h) (Or.inl ⟨by rfl, ?_⟩) hHeld ?_
      · intro w hSw
        obtain ⟨q0, q1, q2⟩ := hSw
        go_simp <;> (first | done | (intro _; omega))
      try simp only [Act.put, List.setIfInBounds_toArray, List.set_cons_zero, List.set_cons_succ]
      refine wpAnyH_take (i := 10) (oi := { dst := some 63, op := _, type := _, pos := _, after := _, guard := _ }) (v := .slice va V.length vc) rfl (by kernel_rfl) (by kernel_rfl) (by kernel_rfl) (fun _ _ _ h => h) (Or.inl ⟨by rfl, ?_⟩) hHeld ?_
      · intro w hSw
        obtain ⟨q0, q1, q2⟩ := hSw
        go_simp <;> (first | done | (intro _; omega))
      try simp only [Act.put, List.setIfInBounds_toArray, List.set_cons_zero, List.set_cons_succ]
      refine wpAnyH_take (i := 11) (oi := { dst := some 64, op := _, type := _, pos := _, after := _, guard := _ }) (v := .string (str p)) rfl (by kernel_rfl) (by kernel_rfl) (by kernel_rfl) (fun _ _ _ h => h) (Or.inl ⟨by rfl, ?_⟩) hHeld ?_
      · intro w hSw
        obtain ⟨q0, q1, q2⟩ := hSw
        go_simp <;> (first | done | (intro _; omega))
      try simp only [Act.put, List.setIfInBounds_toArray, List.set_cons_zero, List.set_cons_succ]
      refine wpAnyH_ready (rs := [12]) (by kernel_rfl) (by simp) ?_
      refine AllReadyH.cons rfl (fun K hK => ?_) AllReadyH.nil
      go_simp
      refine (HEA.out _ BB2.out).mono ?_
      rintro r w7 ⟨lv, ln, lc, rfl, hb7⟩
      have BB3 := hide (below_next BB2.out hb7)
      clear hb7
      go_wp2_with fail
      refine hK.out _ _ (KB.out _ BB3.out) (fun hHeld => ?_)
      clear hK K
      try simp only [Act.put, List.setIfInBounds_toArray, List.set_cons_zero, List.set_cons_succ]
      refine wpAnyH_take (i := 13) (oi := { dst := some 66, op := _, type := _, pos := _, after := _, guard := _ }) (v := .int .i64 0) rfl (by kernel_rfl) (by kernel_rfl) (by kernel_rfl) (fun _ _ _ h => h) (Or.inl ⟨by rfl, ?_⟩) hHeld ?_
      · intro w hSw
        obtain ⟨q0, q1, q2⟩ := hSw
        go_simp <;> (first | done | (intro _; omega))
      try simp only [Act.put, List.setIfInBounds_toArray, List.set_cons_zero, List.set_cons_succ]
      refine wpAnyH_take (i := 14) (oi := { dst := some 67, op := _, type := _, pos := _, after := _, guard := _ }) (v := .bool true) rfl (by kernel_rfl) (by kernel_rfl) (by kernel_rfl) (fun _ _ _ h => h) (Or.inl ⟨by rfl, ?_⟩) hHeld ?_
      · intro w hSw
        obtain ⟨q0, q1, q2⟩ := hSw
        go_simp <;> (first | done | (intro _; omega))
      try simp only [Act.put, List.setIfInBounds_toArray, List.set_cons_zero, List.set_cons_succ]
      refine wpAnyH_take (i := 15) (oi := { dst := some 68, op := _, type := _, pos := _, after := _, guard := _ }) (v := .bool true) rfl (by kernel_rfl) (by kernel_rfl) (by kernel_rfl) (fun _ _ _ h => h) (Or.inl ⟨by rfl, ?_⟩) hHeld ?_
      · intro w hSw
        obtain ⟨q0, q1, q2⟩ := hSw
        go_simp <;> (first | done | (intro _; omega))
      try simp only [Act.put, List.setIfInBounds_toArray, List.set_cons_zero, List.set_cons_succ]
      refine wpAnyH_take (i := 16) (oi := { dst := some 69, op := _, type := _, pos := _, after := _, guard := _ }) (v := .bool true) rfl (by kernel_rfl) (by kernel_rfl) (by kernel_rfl) (fun _ _ _ h => h) (Or.inl ⟨by rfl, ?_⟩) hHeld ?_
      · intro w hSw
        obtain ⟨q0, q1, q2⟩ := hSw
        go_simp <;> (first | done | (intro _; omega))
      try simp only [Act.put, List.setIfInBounds_toArray, List.set_cons_zero, List.set_cons_succ]
      refine wpAnyH_take (i := 17) (oi := { dst := some 70, op := _, type := _, pos := _, after := _, guard := _ }) (v := .pointer (some ⟨b2, 2, none⟩)) rfl (by kernel_rfl) (by kernel_rfl) (by kernel_rfl) (fun _ _ _ h => h) (Or.inl ⟨by rfl, ?_⟩) hHeld ?_
      · intro w hSw
        obtain ⟨q0, q1, q2⟩ := hSw
        go_simp <;> (first | done | (intro _; omega))
      try simp only [Act.put, List.setIfInBounds_toArray, List.set_cons_zero, List.set_cons_succ]
      refine wpAnyH_take (i := 18) (oi := { dst := some 71, op := _, type := _, pos := _, after := _, guard := _ }) (v := .slice va V.length vc) rfl (by kernel_rfl) (by kernel_rfl) (by kernel_rfl) (fun _ _ _ h => h) (Or.inl ⟨by rfl, ?_⟩) hHeld ?_
      · intro w hSw
        obtain ⟨q0, q1, q2⟩ := hSw
        go_simp <;> (first | done | (intro _; omega))
      try simp only [Act.put, List.setIfInBounds_toArray, List.set_cons_zero, List.set_cons_succ]
      refine wpAnyH_ready (rs := [19]) (by kernel_rfl) (by simp) ?_
      refine AllReadyH.cons rfl (fun K hK => ?_) AllReadyH.nil
      go_simp
      refine (HLF.out _ BB3.out).mono ?_
      rintro r w8 ⟨rfl, hb8⟩
      have BB4 := hide (below_next BB3.out hb8)
      clear hb8
      go_wp2_with fail
      refine hK.out _ _ (KB.out _ BB4.out) (fun hHeld => ?_)
      clear hK K
      try simp only [Act.put, List.setIfInBounds_toArray, List.set_cons_zero, List.set_cons_succ]
      refine wpAnyH_take (i := 20) (oi := { dst := some 73, op := _, type := _, pos := _, after := _, guard := _ }) (v := .bool true) rfl (by kernel_rfl) (by kernel_rfl) (by kernel_rfl) (fun _ _ _ h => h) (Or.inl ⟨by rfl, ?_⟩) hHeld ?_
      · intro w hSw
        obtain ⟨q0, q1, q2⟩ := hSw
        go_simp <;> (first | done | (intro _; omega))
      try simp only [Act.put, List.setIfInBounds_toArray, List.set_cons_zero, List.set_cons_succ]
      refine wpAnyH_take (i := 21) (oi := { dst := some 74, op := _, type := _, pos := _, after := _, guard := _ }) (v := .bool true) rfl (by kernel_rfl) (by kernel_rfl) (by kernel_rfl) (fun _ _ _ h => h) (Or.inl ⟨by rfl, ?_⟩) hHeld ?_
      · intro w hSw
        obtain ⟨q0, q1, q2⟩ := hSw
        go_simp <;> (first | done | (intro _; omega))
      try simp only [Act.put, List.setIfInBounds_toArray, List.set_cons_zero, List.set_cons_succ]
      refine wpAnyH_take (i := 22) (oi := { dst := some 75, op := _, type := _, pos := _, after := _, guard := _ }) (v := .bool true) rfl (by kernel_rfl) (by kernel_rfl) (by kernel_rfl) (fun _ _ _ h => h) (Or.inl ⟨by rfl, ?_⟩) hHeld ?_
      · intro w hSw
        obtain ⟨q0, q1, q2⟩ := hSw
        go_simp <;> (first | done | (intro _; omega))
      try simp only [Act.put, List.setIfInBounds_toArray, List.set_cons_zero, List.set_cons_succ]
      refine wpAnyH_take (i := 23) (oi := { dst := some 76, op := _, type := _, pos := _, after := _, guard := _ }) (v := .pointer (some ⟨b2, 2, none⟩)) rfl (by kernel_rfl) (by kernel_rfl) (by kernel_rfl) (fun _ _ _ h => h) (Or.inl ⟨by rfl, ?_⟩) hHeld ?_
      · intro w hSw
        obtain ⟨q0, q1, q2⟩ := hSw
        go_simp <;> (first | done | (intro _; omega))
      try simp only [Act.put, List.setIfInBounds_toArray, List.set_cons_zero, List.set_cons_succ]
      refine wpAnyH_take (i := 24) (oi := { dst := some 77, op := _, type := _, pos := _, after := _, guard := _ }) (v := .slice va V.length vc) rfl (by kernel_rfl) (by kernel_rfl) (by kernel_rfl) (fun _ _ _ h => h) (Or.inl ⟨by rfl, ?_⟩) hHeld ?_
      · intro w hSw
        obtain ⟨q0, q1, q2⟩ := hSw
        go_simp <;> (first | done | (intro _; omega))
      try simp only [Act.put, List.setIfInBounds_toArray, List.set_cons_zero, List.set_cons_succ]
      refine wpAnyH_take (i := 25) (oi := { dst := some 78, op := _, type := _, pos := _, after := _, guard := _ }) (v := .int .i64 (V.length : Int)) rfl (by kernel_rfl) (by kernel_rfl) (by kernel_rfl) (fun _ _ _ h => h) (Or.inl ⟨by rfl, ?_⟩) hHeld ?_
      · intro w hSw
        obtain ⟨q0, q1, q2⟩ := hSw
        go_simp <;> (first | done | (intro _; omega))
      try simp only [Act.put, List.setIfInBounds_toArray, List.set_cons_zero, List.set_cons_succ]
      refine wpAnyH_take (i := 26) (oi := { dst := some 79, op := _, type := _, pos := _, after := _, guard := _ }) (v := .pointer (some ⟨b3, 2, none⟩)) rfl (by kernel_rfl) (by kernel_rfl) (by kernel_rfl) (fun _ _ _ h => h) (Or.inl ⟨by rfl, ?_⟩) hHeld ?_
      · intro w hSw
        obtain ⟨q0, q1, q2⟩ := hSw
        go_simp <;> (first | done | (intro _; omega))
      try simp only [Act.put, List.setIfInBounds_toArray, List.set_cons_zero, List.set_cons_succ]
      refine wpAnyH_take (i := 27) (oi := { dst := some 80, op := _, type := _, pos := _, after := _, guard := _ }) (v := .slice xa V.length xc) rfl (by kernel_rfl) (by kernel_rfl) (by kernel_rfl) (fun _ _ _ h => h) (Or.inl ⟨by rfl, ?_⟩) hHeld ?_
      · intro w hSw
        obtain ⟨q0, q1, q2⟩ := hSw
        go_simp <;> (first | done | (intro _; omega))
      try simp only [Act.put, List.setIfInBounds_toArray, List.set_cons_zero, List.set_cons_succ]
      refine wpAnyH_take (i := 28) (oi := { dst := some 81, op := _, type := _, pos := _, after := _, guard := _ }) (v := .int .i64 (V.length : Int)) rfl (by kernel_rfl) (by kernel_rfl) (by kernel_rfl) (fun _ _ _ h => h) (Or.inl ⟨by rfl, ?_⟩) hHeld ?_
      · intro w hSw
        obtain ⟨q0, q1, q2⟩ := hSw
        go_simp <;> (first | done | (intro _; omega))
      try simp only [Act.put, List.setIfInBounds_toArray, List.set_cons_zero, List.set_cons_succ]
      refine wpAnyH_take (i := 29) (oi := { dst := some 82, op := _, type := _, pos := _, after := _, guard := _ }) (v := .bool true) rfl (by kernel_rfl) (by kernel_rfl) (by kernel_rfl) (fun _ _ _ h => h) (Or.inl ⟨by rfl, ?_⟩) hHeld ?_
      · intro w hSw
        obtain ⟨q0, q1, q2⟩ := hSw
        go_simp <;> (first | done | (intro _; omega))
      try simp only [Act.put, List.setIfInBounds_toArray, List.set_cons_zero, List.set_cons_succ]
      refine wpAnyH_take (i := 30) (oi := { dst := some 83, op := _, type := _, pos := _, after := _, guard := _ }) (v := .bool true) rfl (by kernel_rfl) (by kernel_rfl) (by kernel_rfl) (fun _ _ _ h => h) (Or.inl ⟨by rfl, ?_⟩) hHeld ?_
      · intro w hSw
        obtain ⟨q0, q1, q2⟩ := hSw
        go_simp <;> (first | done | (intro _; omega))
      try simp only [Act.put, List.setIfInBounds_toArray, List.set_cons_zero, List.set_cons_succ]
      refine wpAnyH_take (i := 31) (oi := { dst := some 84, op := _, type := _, pos := _, after := _, guard := _ }) (v := .bool true) rfl (by kernel_rfl) (by kernel_rfl) (by kernel_rfl) (fun _ _ _ h => h) (Or.inl ⟨by rfl, ?_⟩) hHeld ?_
      · intro w hSw
        obtain ⟨q0, q1, q2⟩ := hSw
        go_simp <;> (first | done | (intro _; omega))
      try simp only [Act.put, List.setIfInBounds_toArray, List.set_cons_zero, List.set_cons_succ]
      refine wpAnyH_take (i := 32) (oi := { dst := some 85, op := _, type := _, pos := _, after := _, guard := _ }) (v := .pointer (some ⟨b2, 2, none⟩)) rfl (by kernel_rfl) (by kernel_rfl) (by kernel_rfl) (fun _ _ _ h => h) (Or.inl ⟨by rfl, ?_⟩) hHeld ?_
      · intro w hSw
        obtain ⟨q0, q1, q2⟩ := hSw
        go_simp <;> (first | done | (intro _; omega))
      try simp only [Act.put, List.setIfInBounds_toArray, List.set_cons_zero, List.set_cons_succ]
      refine wpAnyH_take (i := 33) (oi := { dst := some 86, op := _, type := _, pos := _, after := _, guard := _ }) (v := .slice va V.length vc) rfl (by kernel_rfl) (by kernel_rfl) (by kernel_rfl) (fun _ _ _ h => h) (Or.inl ⟨by rfl, ?_⟩) hHeld ?_
      · intro w hSw
        obtain ⟨q0, q1, q2⟩ := hSw
        go_simp <;> (first | done | (intro _; omega))
      try simp only [Act.put, List.setIfInBounds_toArray, List.set_cons_zero, List.set_cons_succ]
      refine wpAnyH_take (i := 34) (oi := { dst := some 87, op := _, type := _, pos := _, after := _, guard := _ }) (v := .int .i64 (V.length : Int)) rfl (by kernel_rfl) (by kernel_rfl) (by kernel_rfl) (fun _ _ _ h => h) (Or.inl ⟨by rfl, ?_⟩) hHeld ?_
      · intro w hSw
        obtain ⟨q0, q1, q2⟩ := hSw
        go_simp <;> (first | done | (intro _; omega))
      try simp only [Act.put, List.setIfInBounds_toArray, List.set_cons_zero, List.set_cons_succ]
      refine wpAnyH_take (i := 35) (oi := { dst := some 88, op := _, type := _, pos := _, after := _, guard := _ }) (v := .bool true) rfl (by kernel_rfl) (by kernel_rfl) (by kernel_rfl) (fun _ _ _ h => h) (Or.inl ⟨by rfl, ?_⟩) hHeld ?_
      · intro w hSw
        obtain ⟨q0, q1, q2⟩ := hSw
        go_simp <;> (first | done | (intro _; omega))
      try simp only [Act.put, List.setIfInBounds_toArray, List.set_cons_zero, List.set_cons_succ]
      refine wpAnyH_take (i := 36) (oi := { dst := some 89, op := _, type := _, pos := _, after := _, guard := _ }) (v := .bool true) rfl (by kernel_rfl) (by kernel_rfl) (by kernel_rfl) (fun _ _ _ h => h) (Or.inl ⟨by rfl, ?_⟩) hHeld ?_
      · intro w hSw
        obtain ⟨q0, q1, q2⟩ := hSw
        go_simp <;> (first | done | (intro _; omega))
      try simp only [Act.put, List.setIfInBounds_toArray, List.set_cons_zero, List.set_cons_succ]
      refine wpAnyH_take (i := 37) (oi := { dst := some 2, op := _, type := _, pos := _, after := _, guard := _ }) (v := .bool true) rfl (by kernel_rfl) (by kernel_rfl) (by kernel_rfl) (fun _ _ _ h => h) (Or.inl ⟨by rfl, ?_⟩) hHeld ?_
      · intro w hSw
        obtain ⟨q0, q1, q2⟩ := hSw
        go_simp <;> (first | done | (intro _; omega))
      try simp only [Act.put, List.setIfInBounds_toArray, List.set_cons_zero, List.set_cons_succ]
      refine wpAnyH_done (by kernel_rfl) ?_ _
      go_wp2_with fail
      go_ret
      exact ⟨rfl, below_next B4.out BB4.out⟩
    · clear HCP HC HT HSL RV4 RL4 RT4
      have hqq : (q == q) = true := by simp
      have hrr : (rep == rep) = true := by simp
      obtain ⟨⟨r0, r1, r2⟩, -, -, -⟩ := X24.out
      obtain ⟨⟨s0, s1, s2⟩, -, -, -⟩ := X34.out
      by_cases hq : q = 0
      · by_cases hr : rep = 0
        · have hc : (C != 0) = true := by simp; exact fun e => hok ⟨⟨hq, hr⟩, e⟩
          subst hq
          subst hr
          clear hok
          go_wp2_with fail
          go_ret
          exact ⟨rfl, B4.out⟩
        · have hr2 : (rep != 0) = true := by simpa using hr
          subst hq
          clear hok hr
          go_wp2_with fail
          go_ret
          exact ⟨by simp, B4.out⟩
      · have hq2 : (q != 0) = true := by simpa using hq
        clear hok hq
        go_wp2_with fail
        go_ret
        exact ⟨by simp, B4.out⟩

set_option maxRecDepth 100000 in
theorem lifted (os : Os) (started : os.Started) (H : Type) (enc : TypeId × Value → H) :
    ReturnsInHanded {} Tryz.checked os 4 .any (Rows.fnCopiesSpec.pre6 enc Tryz.prog Tryz.f4 Rows.fnCopiesRow.domain false) (Rows.fnCopiesSpec.post enc Tryz.prog Tryz.f4 false true false false) := by
  refine returnsInHanded_of_change (C := Tryz.checked) own started (by kernel_rfl) Tryz.func4
    (ChangeSpec.witness6 (enc := enc) (C := Tryz.checked) false ⟨#[], #[.slice none 0 0], []⟩ 8 (by kernel_rfl) (by kernel_rfl) (by kernel_rfl) (by kernel_rfl)) ?_
  intro W base args ds gs before hval0 hW hcnd _
  have hval : ∀ (j : Nat) t v, Tryz.f4.params[j]? = some t → args[j]? = some v → Value.okWide Tryz.prog W .any base t v := hval0
  have hW' := hW
  obtain ⟨p, q, hA0, hV, rfl, hfz, hnd⟩ := hW
  have hA : DataW.TrodAll enc Tryz.prog W 0 (fun _ => true) true Tryz.f4.params.toList args.toList ds p := hA0
  rw [Tryz.params4] at hA hval
  obtain ⟨v0, vs0, d0, ds0, p0, q0, hargs, rfl, rfl, h0, r0⟩ := trodAll_cons hA
  obtain ⟨rfl, rfl, rfl⟩ := trodAll_nil r0
  obtain rfl : args = #[v0] := by cases args; simp_all
  obtain ⟨rfl, rfl⟩ := trodVars_none hV
  obtain ⟨a0, len0, cap0, rfl⟩ := okWide_slice Tryz.underlying22 (hval 0 22 v0 rfl rfl)
  have k0 := h0
  have lt0 : ∀ x ∈ p0, x.block < W.heap.size := by obtain ⟨m, hm⟩ := k0; exact DataW.trod_lt m _ _ _ hm
  obtain ⟨zs, hlen, hread, hu, hmax⟩ : ∃ zs : List Int, zs.length = len0 ∧ Reads .u8 W a0 zs ∧ U8 zs ∧ zs.length ≤ maxLen := by
    obtain ⟨fuel, hf⟩ := h0
    rcases open_ints Tryz.underlying22 Tryz.underlying5 (by kernel_rfl) hf with ⟨hcs, _⟩ | ⟨x, l, c, zs, hcs, _, hl, hm, hz, _, hcell, hwz⟩
    · simp [Value.cells] at hcs
      obtain ⟨rfl, rfl, rfl⟩ := hcs
      exact ⟨[], rfl, fun h => absurd rfl h, fun z hz => by simp at hz, Nat.zero_le _⟩
    · simp [Value.cells] at hcs
      obtain ⟨rfl, rfl, rfl⟩ := hcs
      exact reads_of_row (by simpa using hz) hl hm hcell hwz
  subst hlen
  clear hA0 hval0
  refine (walk a0 cap0 zs W hread hu hmax).mono fun e W' ⟨he, bel⟩ => ?_
  subst he
  exact ⟨_, rfl, _, _, _, [], _, [], hW', trodAll_mk1 (shut_bool Tryz.underlying4 _), (trodAll_cons_mk (Below.trod laidOut (by kernel_rfl) (of_decide_eq_true (by kernel_rfl)) k0 bel lt0) trodAll_mk0), rfl, bel.frame _, fun h => by cases h⟩

theorem over : Rows.fnCopiesRow.holds Tryz.pinned (OpenSpec.ofChange Rows.fnCopiesSpec) :=
  OpenClaim.holds_of_wide 4 Tryz.f4 rfl rfl rfl rfl rfl rfl rfl ⟨rfl, rfl, rfl, rfl, rfl⟩ rfl rfl rfl rfl rfl (by kernel_rfl) Tryz.func4 (by kernel_rfl)
    (of_decide_eq_true (by kernel_rfl)) (by unfold Func.isWrapper; first | (rw [if_pos (by decide +kernel)]; kernel_rfl) | (rw [if_neg (by decide +kernel)]; exact ⟨rfl, rfl⟩))
    (fun os started H enc _ => lifted os started H enc)

end Go.Proofs.YtebgfaohhhgdpaaGreat.fnCopies
namespace Go.Proofs.YtebgfaohhhgdpaaGreat
theorem fnCopies_holds : Rows.FnCopiesSaid := fnCopies.over
#print axioms fnCopies_holds
end Go.Proofs.YtebgfaohhhgdpaaGreat

