/-
  Texts put together: MntH DrawF MntU MntV SnpL SnpM SnpN SnpO SnpR.
-/
import Derived.Test.YteegkblkfdnfiaaGreatKTold12
import Derived.Test.YteegkblkfdnfiaaGreatKTold9
import Derived.Test.YteegkblkfdnfiaaGreatKTold8
import Derived.Test.YteegkblkfdnfiaaGreatKTold6
import Derived.Test.YteegkblkfdnfiaaGreatKTold7
namespace Go.Proofs.YteegkblkfdnfiaaGreat
open Go.RowKit Go.Maps
set_option linter.unusedVariables false
attribute [local go_sem ↓] Go.wp_at_zero Go.wp_at_succ

structure MovOf (ls : List (List En)) (U : List En) (p : Bs) (q rep : Int) (V : List En) : Prop where
  bad : askL (ls ++ [U]) p ≠ 0 → q = askL (ls ++ [U]) p ∧ rep = 0 ∧ V = []
  no : askL (ls ++ [U]) p = 0 → movR (ls ++ [U]) p ≠ 0 → q = 0 ∧ rep = movR (ls ++ [U]) p ∧ V = U
  yes : askL (ls ++ [U]) p = 0 → movR (ls ++ [U]) p = 0 → q = 0 ∧ rep = wrtR U ⟨p, dirKd U p, 0, []⟩ ∧ V = wrtL U ⟨p, dirKd U p, 0, []⟩
structure WovOf (ls : List (List En)) (U : List En) (p : Bs) (zs : List Int) (q rep : Int) (V : List En) : Prop where
  bad : askL (ls ++ [U]) p ≠ 0 → q = askL (ls ++ [U]) p ∧ rep = 0 ∧ V = []
  big : askL (ls ++ [U]) p = 0 → fileCode p zs ≠ 0 → q = fileCode p zs ∧ rep = 0 ∧ V = []
  no : askL (ls ++ [U]) p = 0 → fileCode p zs = 0 → wovR (ls ++ [U]) p ≠ 0 → q = 0 ∧ rep = wovR (ls ++ [U]) p ∧ V = U
  yes : askL (ls ++ [U]) p = 0 → fileCode p zs = 0 → wovR (ls ++ [U]) p = 0 → q = 0 ∧ rep = wrtR U (fileE p zs) ∧ V = wrtL U (fileE p zs)
structure RovOf (ls : List (List En)) (U : List En) (p : Bs) (q rep : Int) (V : List En) : Prop where
  bad : askL (ls ++ [U]) p ≠ 0 → q = askL (ls ++ [U]) p ∧ rep = 0 ∧ V = []
  no : askL (ls ++ [U]) p = 0 → rovR (ls ++ [U]) p ≠ 0 → q = 0 ∧ rep = rovR (ls ++ [U]) p ∧ V = U
  gone : askL (ls ++ [U]) p = 0 → rovR (ls ++ [U]) p = 0 → plcC (ls ++ [restP U p]) p ≠ 0 → q = 0 ∧ rep = 0 ∧ V = restP U p
  white : askL (ls ++ [U]) p = 0 → rovR (ls ++ [U]) p = 0 → plcC (ls ++ [restP U p]) p = 0 → q = 0 ∧ rep = wrtR U ⟨p, 3, 0, []⟩ ∧ V = wrtL U ⟨p, 3, 0, []⟩
set_option maxRecDepth 100000 in
set_option maxHeartbeats 6400000 in
theorem implMakeOver_any (a : Option Addr) (c n : Nat) (ls : List (List En)) (u : Option Addr) (uc m : Nat) (U : List En) (p : Bs) (w : World) (h : RdL w a ls) (hn : n = ls.length) (hl : ls.length ≤ 1000000) (hs : SmallL ls) (hU : RdE w u U) (hm : m = U.length) (hUl : U.length ≤ 1000000) (hUs : SmallE U) (hpl : p.length ≤ 1048576) :
    Calls Tryz.prog 71 #[.slice a n c, .slice u m uc, .string (str p)] w fun r w' => ∃ q rep V, MovOf ls U p q rep V ∧ ResG q rep V w r w' := by
  subst hn
  subst hm
  have X0 := hide (Box3.new w (.int .i64 0) (.int .i64 0) (.slice none 0 0) 69)
  have B0 := hide (below_alloc w (.cells #[.int .i64 0, .int .i64 0, .slice none 0 0] 69))
  have HW := hide (withUpper_any a c ls.length ls u uc U.length U _ (h.below B0.out) rfl hl (hU.below B0.out) rfl)
  have HSL := hide (smallL_snoc hs hUl hUs)
  have HLn := hide (show (ls ++ [U]).length ≤ 1048576 by rw [List.length_append]; simp; omega)
  have HU := hide hU
  have HUs := hide hUs
  clear h hU hs hUs
  have HST := hide (fun (q : Int) v (hv : Below w.heap.size w v) => stays_any u uc U.length U q v (HU.out.below hv) rfl (by omega) HUs.out)
  obtain ⟨al, hal⟩ : ∃ al, al = ls ++ [U] := ⟨_, rfl⟩
  rw [← hal] at HW HSL HLn
  have HALL := hide hal
  clear hal
  go_enter Tryz.func71, Tryz.ntmps71
  go_wp2_with fail
  refine HW.out.mono ?_
  rintro r w1 ⟨av, cv, rfl, hr1, hb1⟩
  have X1 := hide (X0.out.below hb1)
  have B1 := hide (below_next B0.out hb1)
  have R1 := hide hr1
  have hlt := X1.out.lt
  have HAS := hide (implAskL_any av cv al.length al p w1 hr1 rfl HLn.out HSL.out hpl)
  clear hr1 hb1 HW X0 B0
  by_cases hz : askL al p = 0
  · obtain ⟨h4, hRs, hp⟩ := askL_right hz
    have HRU := hide (show Right U from hRs U (by rw [HALL.out]; simp))
    have HZ := hide hz
    have HP := hide hp
    rw [hz] at HAS
    clear hz hRs hp
    go_wp2_with fail
    refine HAS.out.mono ?_
    rintro r w2 ⟨rfl, hb2⟩
    have X2 := hide (X1.out.below hb2)
    have B2 := hide (below_next B1.out hb2)
    have R2 := hide (R1.out.below hb2)
    clear hb2 HAS X1 B1 R1
    have HMR := hide (makeOverR_any av cv al.length al p w2 R2.out rfl HLn.out HSL.out HP.out hpl)
    by_cases hc : movR al p = 0
    · have HCP : Hid (MovOf ls U p 0 (wrtR U ⟨p, dirKd U p, 0, []⟩) (wrtL U ⟨p, dirKd U p, 0, []⟩)) := hide (by
        have z1 := HZ.out
        have z2 := hc
        rw [HALL.out] at z1 z2
        exact ⟨fun h => absurd z1 h, fun _ h => absurd z2 h, fun _ _ => ⟨rfl, rfl, rfl⟩⟩)
      have HDK := hide (fun v (hv : Below w.heap.size w v) => dirKind_any u uc U.length U p v (HU.out.below hv) rfl (by omega) HUs.out hpl)
      have HWR := hide (fun v (hv : Below w.heap.size w v) => written_any u uc U.length U ⟨p, dirKd U p, 0, []⟩ none 0 0 v HRU.out (HU.out.below hv) rfl HP.out rfl (fun hz => absurd rfl hz) hpl (by simp))
      rw [hc] at HMR
      generalize dirKd U p = DK at *
      clear hc
      go_wp2_with fail
      refine HMR.out.mono ?_
      rintro r w3 ⟨rfl, hb3⟩
      have X3 := hide (X2.out.below hb3)
      have B3 := hide (below_next B2.out hb3)
      clear hb3 HMR X2 B2
      go_wp2_with fail
      refine (HDK.out w3 B3.out).mono ?_
      rintro r w4 ⟨rfl, hb4⟩
      have X4 := hide (X3.out.below hb4)
      have B4 := hide (below_next B3.out hb4)
      have HWR4 := hide (HWR.out w4 B4.out)
      clear hb4 X3 B3 HWR HDK
      go_wp2_with fail
      refine HWR4.out.mono ?_
      rintro r w9 ⟨av9, cv9, rfl, hG9, hb9⟩
      have G9 := hide hG9
      have B9 := hide (below_next B4.out hb9)
      have hl9 := X4.out.lt
      obtain ⟨⟨t0, t1, t2⟩, t3, t4, t5⟩ := X4.out.below hb9
      clear hG9 hb9
      go_wp2_with fail
      exact bodyPost_ret (v := .agg #[.int .i64 0, .int .i64 (wrtR U ⟨p, DK, 0, []⟩), .slice av9 (wrtL U ⟨p, DK, 0, []⟩).length cv9]) (by simp [results, Tryz.results71, go_sem, t0, t1, t2]) rfl ⟨0, wrtR U ⟨p, DK, 0, []⟩, wrtL U ⟨p, DK, 0, []⟩, HCP.out, ResG.of hl9 (Nat.le_refl _) rfl G9.out B9.out⟩
    · have HCP : Hid (MovOf ls U p 0 (movR al p) U) := hide (by
        have z1 := HZ.out
        have z2 := hc
        rw [HALL.out] at z1 z2 ⊢
        exact ⟨fun h => absurd z1 h, fun _ _ => ⟨rfl, rfl, rfl⟩, fun _ h => absurd h z2⟩)
      generalize movR al p = F at *
      have hz2 : (F != 0) = true := by simp; exact hc
      clear hc
      go_wp2_with fail
      refine HMR.out.mono ?_
      rintro r w3 ⟨rfl, hb3⟩
      have X3 := hide (X2.out.below hb3)
      have B3 := hide (below_next B2.out hb3)
      clear hb3 HMR X2 B2
      go_wp2_with fail
      refine (HST.out F w3 B3.out).mono ?_
      rintro r w9 ⟨av9, cv9, rfl, hG9, hb9⟩
      have G9 := hide hG9
      have B9 := hide (below_next B3.out hb9)
      have hl9 := X3.out.lt
      obtain ⟨⟨t0, t1, t2⟩, t3, t4, t5⟩ := X3.out.below hb9
      clear hG9 hb9
      go_wp2_with fail
      exact bodyPost_ret (v := .agg #[.int .i64 0, .int .i64 F, .slice av9 U.length cv9]) (by simp [results, Tryz.results71, go_sem, t0, t1, t2]) rfl ⟨0, F, U, HCP.out, ResG.of hl9 (Nat.le_refl _) rfl G9.out B9.out⟩
  · have HCP : Hid (MovOf ls U p (askL al p) 0 []) := hide (by
      rw [HALL.out] at hz ⊢
      exact ⟨fun _ => ⟨rfl, rfl, rfl⟩, fun h => absurd h hz, fun h => absurd h hz⟩)
    generalize askL al p = F at *
    have hz2 : (F != 0) = true := by simp; exact hz
    clear hz
    go_wp2_with fail
    refine HAS.out.mono ?_
    rintro r w2 ⟨rfl, hb2⟩
    have B2 := hide (below_next B1.out hb2)
    have hl1 := X1.out.lt
    obtain ⟨⟨t0, t1, t2⟩, t3, t4, t5⟩ := X1.out.below hb2
    clear hb2
    go_wp2_with fail
    exact bodyPost_ret (v := .agg #[.int .i64 F, .int .i64 0, .slice none 0 0]) (by simp [results, Tryz.results71, go_sem, t0, t1, t2]) rfl ⟨F, 0, [], HCP.out, ResG.of (b := w.heap.size) (Nat.lt_succ_self _) (Nat.le_refl _) rfl (GW.nil _ _) B2.out⟩
set_option maxRecDepth 100000 in
set_option maxHeartbeats 6400000 in
theorem implRemoveOver_any (a : Option Addr) (c n : Nat) (ls : List (List En)) (u : Option Addr) (uc m : Nat) (U : List En) (p : Bs) (w : World) (h : RdL w a ls) (hn : n = ls.length) (hl : ls.length ≤ 1000000) (hs : SmallL ls) (hU : RdE w u U) (hm : m = U.length) (hUl : U.length ≤ 1000000) (hUs : SmallE U) (hpl : p.length ≤ 1048576) :
    Calls Tryz.prog 73 #[.slice a n c, .slice u m uc, .string (str p)] w fun r w' => ∃ q rep V, RovOf ls U p q rep V ∧ ResG q rep V w r w' := by
  subst hn
  subst hm
  have X0 := hide (Box3.new w (.int .i64 0) (.int .i64 0) (.slice none 0 0) 69)
  have B0 := hide (below_alloc w (.cells #[.int .i64 0, .int .i64 0, .slice none 0 0] 69))
  have HW := hide (withUpper_any a c ls.length ls u uc U.length U _ (h.below B0.out) rfl hl (hU.below B0.out) rfl)
  have HSL := hide (smallL_snoc hs hUl hUs)
  have HLn := hide (show (ls ++ [U]).length ≤ 1048576 by rw [List.length_append]; simp; omega)
  have HU := hide hU
  have HUs := hide hUs
  have HSM := hide (hs)
  have HRD := hide h
  have hf0 : ∀ (w : World) (F : Int) (v : Value), (Instr.field 54 (.agg #[.int .i64 F, v]) 0).run Tryz.prog w = .ok (.int .i64 F) w := fun _ _ _ => by kernel_rfl
  have hf1 : ∀ (w : World) (F : Int) (v : Value), (Instr.field 54 (.agg #[.int .i64 F, v]) 1).run Tryz.prog w = .ok v w := fun _ _ _ => by kernel_rfl
  clear h hU hs hUs
  have HST := hide (fun (q : Int) v (hv : Below w.heap.size w v) => stays_any u uc U.length U q v (HU.out.below hv) rfl (by omega) HUs.out)
  obtain ⟨al, hal⟩ : ∃ al, al = ls ++ [U] := ⟨_, rfl⟩
  rw [← hal] at HW HSL HLn
  have HALL := hide hal
  clear hal
  go_enter Tryz.func73, Tryz.ntmps73
  go_wp2_with fail
  refine HW.out.mono ?_
  rintro r w1 ⟨av, cv, rfl, hr1, hb1⟩
  have X1 := hide (X0.out.below hb1)
  have B1 := hide (below_next B0.out hb1)
  have R1 := hide hr1
  have hlt := X1.out.lt
  have HAS := hide (implAskL_any av cv al.length al p w1 hr1 rfl HLn.out HSL.out hpl)
  clear hr1 hb1 HW X0 B0
  by_cases hz : askL al p = 0
  · obtain ⟨h4, hRs, hp⟩ := askL_right hz
    have HRU := hide (show Right U from hRs U (by rw [HALL.out]; simp))
    have HZ := hide hz
    have HP := hide hp
    rw [hz] at HAS
    clear hz hRs hp
    go_wp2_with fail
    refine HAS.out.mono ?_
    rintro r w2 ⟨rfl, hb2⟩
    have X2 := hide (X1.out.below hb2)
    have B2 := hide (below_next B1.out hb2)
    have R2 := hide (R1.out.below hb2)
    clear hb2 HAS X1 B1 R1
    have HMR := hide (removeOverR_any av cv al.length al p w2 R2.out rfl HLn.out HSL.out hpl)
    by_cases hc : rovR al p = 0
    · have HC := hide hc
      rw [hc] at HMR
      clear hc
      have hdz : dropListP U p = restP U p := by rw [dropListP, if_pos (askP_of HRU.out HP.out)]
      have HDB := hide (fun v (hv : Below w.heap.size w v) => implDropBelow_any u uc U.length U p v (HU.out.below hv) rfl (by omega) HUs.out hpl)
      rw [hdz, askP_of HRU.out HP.out] at HDB
      have hrl : (restP U p).length ≤ 1000000 := by have := List.length_filter_le (fun e : En => !(atBelow e.path p)) U; have e9 : restP U p = U.filter (fun e : En => !(atBelow e.path p)) := rfl; rw [e9]; omega
      have HRS := hide (show SmallE (restP U p) from fun e he => HUs.out e (List.mem_filter.1 he).1)
      have HL2 := hide (smallL_snoc HSM.out hrl HRS.out)
      have HN2 := hide (show (ls ++ [restP U p]).length ≤ 1048576 by rw [List.length_append]; simp; omega)
      have HCP1 : Hid (plcC (ls ++ [restP U p]) p ≠ 0 → RovOf ls U p 0 0 (restP U p)) := hide (fun z3 => by
        have z1 := HZ.out
        have z2 := HC.out
        rw [HALL.out] at z1 z2
        exact ⟨fun h => absurd z1 h, fun _ h => absurd z2 h, fun _ _ _ => ⟨rfl, rfl, rfl⟩, fun _ _ h => absurd h z3⟩)
      have HCP2 : Hid (plcC (ls ++ [restP U p]) p = 0 → RovOf ls U p 0 (wrtR U ⟨p, 3, 0, []⟩) (wrtL U ⟨p, 3, 0, []⟩)) := hide (fun z3 => by
        have z1 := HZ.out
        have z2 := HC.out
        rw [HALL.out] at z1 z2
        exact ⟨fun h => absurd z1 h, fun _ h => absurd z2 h, fun _ _ h => absurd z3 h, fun _ _ _ => ⟨rfl, rfl, rfl⟩⟩)
      have HWR := hide (fun v (hv : Below w.heap.size w v) => written_any u uc U.length U ⟨p, 3, 0, []⟩ none 0 0 v HRU.out (HU.out.below hv) rfl HP.out rfl (fun hz => absurd rfl hz) hpl (by simp))
      clear hdz
      generalize restP U p = RU at *
      go_wp2_with fail
      refine HMR.out.mono ?_
      rintro r w3 ⟨rfl, hb3⟩
      have X3 := hide (X2.out.below hb3)
      have B3 := hide (below_next B2.out hb3)
      clear hb3 HMR X2 B2
      go_wp2_with fail
      refine (HDB.out w3 B3.out).mono ?_
      rintro r w4 ⟨dv, dc, rfl, hG4, hb4⟩
      have hs3 := B3.out.size
      have hx3 := X3.out.lt
      have X4 := hide (X3.out.below hb4)
      have B4 := hide (below_next B3.out hb4)
      have G4 := hide (GW.of hG4)
      clear hb4 hG4 X3 B3 HDB
      have HW4 := hide (withUpper_any a c ls.length ls dv dc RU.length RU w4 (HRD.out.below B4.out) rfl hl G4.out.rd rfl)
      go_wp2_with fail
      refine HW4.out.mono ?_
      rintro r w5 ⟨av5, cv5, rfl, hr5, hb5⟩
      have X5 := hide (X4.out.below hb5)
      have B5 := hide (below_next B4.out hb5)
      have G5 := hide (G4.out.below hb5)
      have HLO : Hid (Calls Tryz.prog 121 #[.slice av5 (ls ++ [RU]).length cv5, .string (str p)] w5 fun r w' => ∃ lv ln lc, r = .returned (.agg #[.int .i64 (plcC (ls ++ [RU]) p), .slice lv ln lc]) ∧ Below w5.heap.size w5 w') := hide ((implLookOver_any av5 cv5 (ls ++ [RU]).length (ls ++ [RU]) p w5 hr5 rfl HN2.out HL2.out hpl).mono (fun r w' ⟨lv, lc, h2, _, h4⟩ => ⟨lv, _, lc, h2, h4⟩))
      clear hr5 hb5 HW4 X4 B4 G4 HL2 HN2
      generalize plcC (ls ++ [RU]) p = PC at *
      generalize ls ++ [RU] = al2 at *
      by_cases hq : PC = 0
      · have HCP := hide (HCP2.out hq)
        subst hq
        clear HCP1 HCP2
        go_wp2_with fail
        refine HLO.out.mono ?_
        rintro r w6 ⟨lv, ln, lc, rfl, hb6⟩
        have X6 := hide (X5.out.below hb6)
        have B6 := hide (below_next B5.out hb6)
        clear hb6 X5 B5 HLO G5
        have HWR6 := hide (HWR.out w6 B6.out)
        clear HWR
        go_wp2_with fail
        refine HWR6.out.mono ?_
        rintro r w9 ⟨av9, cv9, rfl, hG9, hb9⟩
        have G9 := hide hG9
        have B9 := hide (below_next B6.out hb9)
        have hl9 := X6.out.lt
        obtain ⟨⟨t0, t1, t2⟩, t3, t4, t5⟩ := X6.out.below hb9
        clear hG9 hb9
        go_wp2_with fail
        exact bodyPost_ret (v := .agg #[.int .i64 0, .int .i64 (wrtR U ⟨p, 3, 0, []⟩), .slice av9 (wrtL U ⟨p, 3, 0, []⟩).length cv9]) (by simp [results, Tryz.results73, go_sem, t0, t1, t2]) rfl ⟨0, wrtR U ⟨p, 3, 0, []⟩, wrtL U ⟨p, 3, 0, []⟩, HCP.out, ResG.of hl9 (Nat.le_refl _) rfl G9.out B9.out⟩
      · have HCP := hide (HCP1.out hq)
        have hz2 : (PC != 0) = true := by simp; exact hq
        clear HCP1 HCP2 hq HWR
        go_wp2_with fail
        refine HLO.out.mono ?_
        rintro r w6 ⟨lv, ln, lc, rfl, hb6⟩
        have hl6 := X5.out.lt
        have B6 := hide (below_next B5.out hb6)
        have G6 := hide (G5.out.below hb6)
        obtain ⟨⟨t0, t1, t2⟩, t3, t4, t5⟩ := X5.out.below hb6
        clear hb6 X5 B5 HLO G5
        go_wp2_with fail
        exact bodyPost_ret (v := .agg #[.int .i64 0, .int .i64 0, .slice dv RU.length dc]) (by simp [results, Tryz.results73, go_sem, t0, t1, t2]) rfl ⟨0, 0, RU, HCP.out, ResG.of (b := w.heap.size) hx3 (Nat.le_refl _) rfl G6.out B6.out⟩
    · have HCP : Hid (RovOf ls U p 0 (rovR al p) U) := hide (by
        have z1 := HZ.out
        have z2 := hc
        rw [HALL.out] at z1 z2 ⊢
        exact ⟨fun h => absurd z1 h, fun _ _ => ⟨rfl, rfl, rfl⟩, fun _ h => absurd h z2, fun _ h => absurd h z2⟩)
      generalize rovR al p = F at *
      have hz2 : (F != 0) = true := by simp; exact hc
      clear hc
      go_wp2_with fail
      refine HMR.out.mono ?_
      rintro r w3 ⟨rfl, hb3⟩
      have X3 := hide (X2.out.below hb3)
      have B3 := hide (below_next B2.out hb3)
      clear hb3 HMR X2 B2
      go_wp2_with fail
      refine (HST.out F w3 B3.out).mono ?_
      rintro r w9 ⟨av9, cv9, rfl, hG9, hb9⟩
      have G9 := hide hG9
      have B9 := hide (below_next B3.out hb9)
      have hl9 := X3.out.lt
      obtain ⟨⟨t0, t1, t2⟩, t3, t4, t5⟩ := X3.out.below hb9
      clear hG9 hb9
      go_wp2_with fail
      exact bodyPost_ret (v := .agg #[.int .i64 0, .int .i64 F, .slice av9 U.length cv9]) (by simp [results, Tryz.results73, go_sem, t0, t1, t2]) rfl ⟨0, F, U, HCP.out, ResG.of hl9 (Nat.le_refl _) rfl G9.out B9.out⟩
  · have HCP : Hid (RovOf ls U p (askL al p) 0 []) := hide (by
      rw [HALL.out] at hz ⊢
      exact ⟨fun _ => ⟨rfl, rfl, rfl⟩, fun h => absurd h hz, fun h => absurd h hz, fun h => absurd h hz⟩)
    generalize askL al p = F at *
    have hz2 : (F != 0) = true := by simp; exact hz
    clear hz
    go_wp2_with fail
    refine HAS.out.mono ?_
    rintro r w2 ⟨rfl, hb2⟩
    have B2 := hide (below_next B1.out hb2)
    have hl1 := X1.out.lt
    obtain ⟨⟨t0, t1, t2⟩, t3, t4, t5⟩ := X1.out.below hb2
    clear hb2
    go_wp2_with fail
    exact bodyPost_ret (v := .agg #[.int .i64 F, .int .i64 0, .slice none 0 0]) (by simp [results, Tryz.results73, go_sem, t0, t1, t2]) rfl ⟨F, 0, [], HCP.out, ResG.of (b := w.heap.size) (Nat.lt_succ_self _) (Nat.le_refl _) rfl (GW.nil _ _) B2.out⟩
set_option maxRecDepth 100000 in
set_option maxHeartbeats 6400000 in
theorem implWriteOver_any (a : Option Addr) (c n : Nat) (ls : List (List En)) (u : Option Addr) (uc m : Nat) (U : List En) (p : Bs) (zs : List Int) (d : Option Addr) (dn dc : Nat) (w : World) (h : RdL w a ls) (hn : n = ls.length) (hl : ls.length ≤ 1000000) (hs : SmallL ls) (hU : RdE w u U) (hm : m = U.length) (hUl : U.length ≤ 1000000) (hUs : SmallE U) (hpl : p.length ≤ 1048576) (hd : Reads .u8 w d zs) (hdn : dn = zs.length) (hu8 : U8 zs) (hdc : zs.length ≤ dc) (hdl : zs.length ≤ 1048576) :
    Calls Tryz.prog 69 #[.slice a n c, .slice u m uc, .string (str p), .slice d dn dc] w fun r w' => ∃ q rep V, WovOf ls U p zs q rep V ∧ ResG q rep V w r w' := by
  subst hn
  subst hm
  subst hdn
  have X0 := hide (Box3.new w (.int .i64 0) (.int .i64 0) (.slice none 0 0) 69)
  have B0 := hide (below_alloc w (.cells #[.int .i64 0, .int .i64 0, .slice none 0 0] 69))
  have HW := hide (withUpper_any a c ls.length ls u uc U.length U _ (h.below B0.out) rfl hl (hU.below B0.out) rfl)
  have HSL := hide (smallL_snoc hs hUl hUs)
  have HLn := hide (show (ls ++ [U]).length ≤ 1048576 by rw [List.length_append]; simp; omega)
  have HU := hide hU
  have HUs := hide hUs
  have HD := hide hd
  have HU8 := hide hu8
  clear hd hu8
  clear h hU hs hUs
  have HST := hide (fun (q : Int) v (hv : Below w.heap.size w v) => stays_any u uc U.length U q v (HU.out.below hv) rfl (by omega) HUs.out)
  obtain ⟨al, hal⟩ : ∃ al, al = ls ++ [U] := ⟨_, rfl⟩
  rw [← hal] at HW HSL HLn
  have HALL := hide hal
  clear hal
  go_enter Tryz.func69, Tryz.ntmps69
  go_wp2_with fail
  refine HW.out.mono ?_
  rintro r w1 ⟨av, cv, rfl, hr1, hb1⟩
  have X1 := hide (X0.out.below hb1)
  have B1 := hide (below_next B0.out hb1)
  have R1 := hide hr1
  have hlt := X1.out.lt
  have HAS := hide (implAskL_any av cv al.length al p w1 hr1 rfl HLn.out HSL.out hpl)
  clear hr1 hb1 HW X0 B0
  by_cases hz : askL al p = 0
  · obtain ⟨h4, hRs, hp⟩ := askL_right hz
    have HRU := hide (show Right U from hRs U (by rw [HALL.out]; simp))
    have HZ := hide hz
    have HP := hide hp
    rw [hz] at HAS
    clear hz hRs hp
    go_wp2_with fail
    refine HAS.out.mono ?_
    rintro r w2 ⟨rfl, hb2⟩
    have X2 := hide (X1.out.below hb2)
    have B2 := hide (below_next B1.out hb2)
    have R2 := hide (R1.out.below hb2)
    clear hb2 HAS X1 B1 R1
    have HFE := hide (implFileEntry_any p d dc zs.length zs w2 (HD.out.below B2.out) rfl HU8.out hdc hpl hdl)
    by_cases hf : fileCode p zs = 0
    · have HFC := hide hf
      have hfl : fileList p zs = [fileE p zs] := by rw [fileList, if_pos hf]
      have HEC := hide (show (fileE p zs).chunks.length ≤ 1048576 by show (digs zs (cut zs).length).length ≤ 1048576; rw [digs_length, cut_length]; omega)
      have HEP := hide (show (fileE p zs).path = p from rfl)
      rw [hf, hfl] at HFE
      have HCP1 : Hid (wovR al p ≠ 0 → WovOf ls U p zs 0 (wovR al p) U) := hide (fun z2 => by
        have z1 := HZ.out
        rw [HALL.out] at z1 z2 ⊢
        exact ⟨fun h => absurd z1 h, fun _ h => absurd hf h, fun _ _ _ => ⟨rfl, rfl, rfl⟩, fun _ _ h => absurd h z2⟩)
      have HCP2 : Hid (wovR al p = 0 → WovOf ls U p zs 0 (wrtR U (fileE p zs)) (wrtL U (fileE p zs))) := hide (fun z2 => by
        have z1 := HZ.out
        rw [HALL.out] at z1 z2
        exact ⟨fun h => absurd z1 h, fun _ h => absurd hf h, fun _ _ h => absurd z2 h, fun _ _ _ => ⟨rfl, rfl, rfl⟩⟩)
      clear hf hfl
      generalize fileE p zs = fe at *
      go_wp2_with fail
      refine HFE.out.mono ?_
      rintro r w3 ⟨lv, lc, rfl, hG3, hb3⟩
      simp only [List.length_singleton] at hG3 ⊢
      have A3 := hide (below_alloc w3 (.cells #[.int .i64 0, .slice lv 1 lc] 54))
      have T3 := hide (Box.new w3 (.int .i64 0) (.slice lv 1 lc) 54)
      have X3 := hide (X2.out.below (below_next hb3 A3.out))
      have B3 := hide (below_next B2.out (below_next hb3 A3.out))
      have RE3 := hide (hG3.rd.below A3.out)
      have R3 := hide (R2.out.below (below_next hb3 A3.out))
      clear hG3 hb3 HFE X2 B2 R2 A3
      obtain ⟨yb, yo, e', y, yc, rfl, hyb, hye, y0, y1, y2, y3, hyr⟩ := RE3.out.at (k := 0) (by simp)
      simp only [List.getElem?_cons_zero, Option.some.injEq] at hye
      subst hye
      simp only [Nat.zero_mul, Nat.add_zero] at y0 y1 y2 y3
      have HYR := hide hyr
      have KY : Hid (∀ W : World, Below (w3.alloc (.cells #[.int .i64 0, .slice (some ⟨yb, yo, none⟩) 1 lc] 54)).heap.size (w3.alloc (.cells #[.int .i64 0, .slice (some ⟨yb, yo, none⟩) 1 lc] 54)) W → (W.cell? ⟨yb, yo, none⟩ = some (.string (str fe.path)) ∧ W.cell? ⟨yb, yo + 1, none⟩ = some (.int .i64 fe.kind) ∧ W.cell? ⟨yb, yo + 2, none⟩ = some (.int .i64 fe.size) ∧ W.cell? ⟨yb, yo + 3, none⟩ = some (.slice y fe.chunks.length yc)) ∧ Reads .i64 W y fe.chunks) := hide (fun W hW => ⟨⟨(hW.cell (p := ⟨yb, yo, none⟩) hyb).trans y0, (hW.cell (p := ⟨yb, yo + 1, none⟩) hyb).trans y1, (hW.cell (p := ⟨yb, yo + 2, none⟩) hyb).trans y2, (hW.cell (p := ⟨yb, yo + 3, none⟩) hyb).trans y3⟩, HYR.out.below hW⟩)
      have HMR := hide (writeOverR_any av cv al.length al p (w3.alloc (.cells #[.int .i64 0, .slice (some ⟨yb, yo, none⟩) 1 lc] 54)) R3.out rfl HLn.out HSL.out HP.out hpl)
      clear hyr y0 y1 y2 y3 hyb RE3
      obtain ⟨⟨s0, s1⟩, s2, s3⟩ := T3.out
      by_cases hc : wovR al p = 0
      · have HCP := hide (HCP2.out hc)
        rw [hc] at HMR
        clear hc HCP1 HCP2
        go_wp2_with fail
        clear s0 s1 s2 s3
        generalize w3.alloc (.cells #[.int .i64 0, .slice (some ⟨yb, yo, none⟩) 1 lc] 54) = W3 at *
        generalize w3.heap.size = b3 at *
        refine HMR.out.mono ?_
        rintro r w4 ⟨rfl, hb4⟩
        have X4 := hide (X3.out.below hb4)
        have T4 := hide (T3.out.below hb4)
        have B4 := hide (below_next B3.out hb4)
        have KY4 := hide (KY.out w4 hb4)
        have HWR4 := hide (written_any u uc U.length U fe y fe.chunks.length yc w4 HRU.out (HU.out.below B4.out) rfl (by rw [HEP.out]; exact HP.out) rfl KY4.out.2 (by rw [HEP.out]; exact hpl) HEC.out)
        clear hb4 X3 T3 B3 HMR
        obtain ⟨⟨s0, s1⟩, s2, s3⟩ := T4.out
        obtain ⟨⟨y0, y1, y2, y3⟩, -⟩ := KY4.out
        go_wp2_with fail
        clear s0 s1 s2 s3 y0 y1 y2 y3
        refine HWR4.out.mono ?_
        rintro r w9 ⟨av9, cv9, rfl, hG9, hb9⟩
        have G9 := hide hG9
        have B9 := hide (below_next B4.out hb9)
        have hl9 := X4.out.lt
        obtain ⟨⟨t0, t1, t2⟩, t3, t4, t5⟩ := X4.out.below hb9
        clear hG9 hb9
        go_wp2_with fail
        exact bodyPost_ret (v := .agg #[.int .i64 0, .int .i64 (wrtR U fe), .slice av9 (wrtL U fe).length cv9]) (by simp [results, Tryz.results69, go_sem, t0, t1, t2]) rfl ⟨0, wrtR U fe, wrtL U fe, HCP.out, ResG.of hl9 (Nat.le_refl _) rfl G9.out B9.out⟩
      · have HCP := hide (HCP1.out hc)
        generalize wovR al p = F at *
        have hz2 : (F != 0) = true := by simp; exact hc
        clear hc HCP1 HCP2
        go_wp2_with fail
        clear s0 s1 s2 s3
        generalize w3.alloc (.cells #[.int .i64 0, .slice (some ⟨yb, yo, none⟩) 1 lc] 54) = W3 at *
        generalize w3.heap.size = b3 at *
        refine HMR.out.mono ?_
        rintro r w4 ⟨rfl, hb4⟩
        have X4 := hide (X3.out.below hb4)
        have B4 := hide (below_next B3.out hb4)
        clear hb4 X3 T3 B3 HMR
        go_wp2_with fail
        refine (HST.out F w4 B4.out).mono ?_
        rintro r w9 ⟨av9, cv9, rfl, hG9, hb9⟩
        have G9 := hide hG9
        have B9 := hide (below_next B4.out hb9)
        have hl9 := X4.out.lt
        obtain ⟨⟨t0, t1, t2⟩, t3, t4, t5⟩ := X4.out.below hb9
        clear hG9 hb9
        go_wp2_with fail
        exact bodyPost_ret (v := .agg #[.int .i64 0, .int .i64 F, .slice av9 U.length cv9]) (by simp [results, Tryz.results69, go_sem, t0, t1, t2]) rfl ⟨0, F, U, HCP.out, ResG.of hl9 (Nat.le_refl _) rfl G9.out B9.out⟩
    · have HCP : Hid (WovOf ls U p zs (fileCode p zs) 0 []) := hide (by
        have z1 := HZ.out
        rw [HALL.out] at z1
        exact ⟨fun h => absurd z1 h, fun _ _ => ⟨rfl, rfl, rfl⟩, fun _ h => absurd h hf, fun _ h => absurd h hf⟩)
      have hz2 : (fileCode p zs != 0) = true := by simp; exact hf
      clear hf
      generalize fileCode p zs = FC at *
      go_wp2_with fail
      refine HFE.out.mono ?_
      rintro r w3 ⟨lv, lc, rfl, hG3, hb3⟩
      generalize (fileList p zs).length = LL at *
      have A3 := hide (below_alloc w3 (.cells #[.int .i64 FC, .slice lv LL lc] 54))
      have T3 := hide (Box.new w3 (.int .i64 FC) (.slice lv LL lc) 54)
      have X3 := hide (X2.out.below (below_next hb3 A3.out))
      have B3 := hide (below_next B2.out (below_next hb3 A3.out))
      have hl1 := X2.out.lt
      clear hG3 hb3 HFE X2 B2 R2 A3
      obtain ⟨⟨s0, s1⟩, s2, s3⟩ := T3.out
      obtain ⟨⟨t0, t1, t2⟩, t3, t4, t5⟩ := X3.out
      go_wp2_with fail
      exact bodyPost_ret (v := .agg #[.int .i64 FC, .int .i64 0, .slice none 0 0]) (by simp [results, Tryz.results69, go_sem, t0, t1, t2]) rfl ⟨FC, 0, [], HCP.out, ResG.of (b := w.heap.size) (Nat.lt_succ_self _) (Nat.le_refl _) rfl (GW.nil _ _) B3.out⟩
  · have HCP : Hid (WovOf ls U p zs (askL al p) 0 []) := hide (by
      rw [HALL.out] at hz ⊢
      exact ⟨fun _ => ⟨rfl, rfl, rfl⟩, fun h => absurd h hz, fun h => absurd h hz, fun h => absurd h hz⟩)
    generalize askL al p = F at *
    have hz2 : (F != 0) = true := by simp; exact hz
    clear hz
    go_wp2_with fail
    refine HAS.out.mono ?_
    rintro r w2 ⟨rfl, hb2⟩
    have B2 := hide (below_next B1.out hb2)
    have hl1 := X1.out.lt
    obtain ⟨⟨t0, t1, t2⟩, t3, t4, t5⟩ := X1.out.below hb2
    clear hb2
    go_wp2_with fail
    exact bodyPost_ret (v := .agg #[.int .i64 F, .int .i64 0, .slice none 0 0]) (by simp [results, Tryz.results69, go_sem, t0, t1, t2]) rfl ⟨F, 0, [], HCP.out, ResG.of (b := w.heap.size) (Nat.lt_succ_self _) (Nat.le_refl _) rfl (GW.nil _ _) B2.out⟩
end Go.Proofs.YteegkblkfdnfiaaGreat

namespace Go.Proofs.YteegkblkfdnfiaaGreat
open Go.RowKit Go.Maps
set_option linter.unusedVariables false
attribute [local go_sem ↓] Go.wp_at_zero Go.wp_at_succ


theorem fileE_right {p : Bs} {zs : List Int} (hp : faultP p = 0) (hl : zs.length ≤ 24) : entFault (fileE p zs) = 0 := by
  have h1 : formE (fileE p zs) = true := decide_eq_true ⟨by simp [fileE], .inl rfl⟩
  have h2 : sizeE (fileE p zs) = true := decide_eq_true (by simp [fileE]; omega)
  have h3 : manyE (fileE p zs) = true := decide_eq_true (by show ((digs zs (cut zs).length).length : Int) = ((zs.length : Int) + 7) / 8; rw [digs_len, cut_length]; omega)
  rw [entFault_digs hp h1 h2 h3, if_pos]
  rw [List.all_eq_true]
  intro z hz
  simp only [fileE, digs, List.mem_map] at hz
  obtain ⟨i, _, rfl⟩ := hz
  exact decide_eq_true (digest_range _)
end Go.Proofs.YteegkblkfdnfiaaGreat

namespace Go.Proofs.YteegkblkfdnfiaaGreat
set_option linter.unusedVariables false

theorem mal_up {ls : List (List En)} {U V : List En} (h : malC (ls ++ [U]) = 0) (hV : Right V) (hl : (allE (ls ++ [V])).length ≤ 40) : malC (ls ++ [V]) = 0 ∧ malL (ls ++ [V]) = allE (ls ++ [V]) := by
  obtain ⟨h1, -, -⟩ := mal_zero h
  have hok : malOK (ls ++ [U]) = true := by
    rw [malC, if_pos h1] at h
    by_cases hk : malOK (ls ++ [U]) = true
    · exact hk
    · rw [if_neg hk] at h; cases h
  obtain ⟨h4, hR⟩ := layersP_zero.1 h1
  have hz : layersP (ls ++ [V]) = 0 := layersP_zero.2 ⟨by simpa using h4, fun es he => by
    rcases List.mem_append.1 he with he | he
    · exact hR es (List.mem_append_left _ he)
    · simp at he; subst he; exact hV⟩
  have hok2 : malOK (ls ++ [V]) = true := by
    rw [malOK, List.all_eq_true] at hok ⊢
    intro j hj
    have hj2 : j ≤ ls.length + 1 := by have := List.mem_range.1 hj; simp at this; omega
    by_cases hjl : j ≤ ls.length
    · have h5 := hok j (List.mem_range.2 (by simp; omega))
      rw [List.take_append_of_le_length hjl] at h5 ⊢
      exact h5
    · rw [List.take_of_length_le (by simp; omega)]
      exact decide_eq_true hl
  have hc : malC (ls ++ [V]) = 0 := by rw [malC, if_pos hz, if_pos hok2]
  exact ⟨hc, by rw [malL, if_pos hc]⟩
theorem home_of_wr {T : List En} {p : Bs} (h : wrS T p = 0) : homeC T p = 0 := by
  by_cases hh : homeC T p = 0
  · exact hh
  · rw [wrS, if_neg hh] at h; exact h
theorem home_of_mk {T : List En} {p : Bs} (h : mkS T p = 0) : homeC T p = 0 := by
  by_cases hh : homeC T p = 0
  · exact hh
  · rw [mkS, if_neg hh] at h; exact h
theorem dirKd_F {U : List En} {p : Bs} {T t : List En} (ht : FitT t) (hU : Right U) (hp : faultP p = 0) (h : mkS (mergeE t U) p = 0) : (⟨p, dirKd U p, 0, []⟩ : En) = dirF U p := by
  have hF := (right_fit.1 hU).1
  have hn : findE (mergeE t U) p = none := by
    rw [mkS, if_pos (home_of_mk h)] at h
    cases hs : findE (mergeE t U) p with
    | none => rfl
    | some x => rw [hs] at h; simp at h
  rw [merge_find ht hF] at hn
  cases hu : findE U p with
  | none =>
    have hc : findCodeP U p ≠ 0 := fun hc => (findCode_iff hU hp).1 hc hu
    rw [dirKd, if_neg hc, dirF, hu]
  | some x =>
    have hc : findCodeP U p = 0 := (findCode_iff hU hp).2 (by rw [hu]; simp)
    rw [seeT_some hu] at hn
    by_cases hk : x.kind = 3
    · rw [dirKd, if_pos hc, dirF, hu]; simp [hk]
    · rw [if_neg hk] at hn; cases hn
end Go.Proofs.YteegkblkfdnfiaaGreat

namespace Go.Proofs.YteegkblkfdnfiaaGreat
set_option linter.unusedVariables false

theorem fills_right {O U : List En} {e : En} {rep : Int} {V : List En} (hO : Right O) (hU : Right U) (he : entFault e = 0) (hd : ∀ u ∈ above e.path, ∀ x, findE U u = some x → dirK x.kind = true) (h : FillsO O U e rep V) : Right V := by
  by_cases hl : 12 < (fillS U e).length
  · rw [(h.1 hl).2]; exact hO
  · rw [(h.2 hl).2]; exact fill_right hU he hd (by omega)
theorem lows_fit {ls : List (List En)} {U : List En} (hR : ∀ es ∈ ls ++ [U], Right es) : FitT (allE ls) ∧ Right U := ⟨all_fit (rights_fit fun es he => hR es (List.mem_append_left _ he)), hR U (by simp)⟩
theorem wr_right {ls : List (List En)} {U : List En} {p : Bs} {zs : List Int} {rep : Int} {V : List En} (hR : ∀ es ∈ ls ++ [U], Right es) (hp : faultP p = 0) (hzl : zs.length ≤ 24) (h : WrS (allE (ls ++ [U])) U p (fileE p zs) rep V) : Right V := by
  obtain ⟨ht, hU⟩ := lows_fit hR
  by_cases hw : wrS (allE (ls ++ [U])) p = 0
  · exact fills_right hU hU (fileE_right hp hzl) (dirs_ok ht (right_fit.1 hU).1 hp (by rw [← allE_snoc]; exact home_of_wr hw)) (h.yes hw)
  · rw [(h.no hw).2]; exact hU
theorem mk_right {ls : List (List En)} {U : List En} {p : Bs} {rep : Int} {V : List En} (hR : ∀ es ∈ ls ++ [U], Right es) (hp : faultP p = 0) (h : MkS (allE (ls ++ [U])) U p rep V) : Right V := by
  obtain ⟨ht, hU⟩ := lows_fit hR
  obtain ⟨he, hep, -, -⟩ := dirF_ent (U := U) hp
  by_cases hw : mkS (allE (ls ++ [U])) p = 0
  · exact fills_right hU hU he (by rw [hep]; exact dirs_ok ht (right_fit.1 hU).1 hp (by rw [← allE_snoc]; exact home_of_mk hw)) (h.yes hw)
  · rw [(h.no hw).2]; exact hU
theorem rm_right {ls : List (List En)} {U : List En} {p : Bs} {rep : Int} {V : List En} (hR : ∀ es ∈ ls ++ [U], Right es) (hp : faultP p = 0) (h : RmS ls (allE (ls ++ [U])) U p rep V) : Right V := by
  obtain ⟨ht, hU⟩ := lows_fit hR
  have hr := right_restE hU hp
  by_cases hw : rmS (allE (ls ++ [U])) p = 0
  · cases hs : findE (allE (ls ++ [restE U p true])) p with
    | none => rw [(h.gone hw hs).2]; exact hr
    | some x =>
      have hT : FitT (allE (ls ++ [restE U p true])) := by rw [allE_snoc]; exact merge_fit ht (right_fit.1 hr).1
      have hh := home_seen hT hs
      rw [allE_snoc] at hh
      exact fills_right hU hr (whiteQ_ent hp) (dirs_ok ht (right_fit.1 hr).1 hp hh) (h.white hw (by rw [hs]; simp))
  · rw [(h.no hw).2]; exact hU
end Go.Proofs.YteegkblkfdnfiaaGreat

namespace Go.Proofs.YteegkblkfdnfiaaGreat
set_option linter.unusedVariables false

structure Sn where
  name : Bs
  parent : Bs
  kind : Int
  lease : Bool
  layer : List En

def nmOk (b : Bs) : Bool := plain b && decide (b.length ≤ 4)
theorem nmOk_ne {b : Bs} (h : nmOk b = true) : b ≠ [] := fun e => by subst e; simp [nmOk, plain] at h
def atS (l : List Sn) (nm : Bs) : Option Sn := l.find? fun s => s.name == nm
theorem atS_some {l : List Sn} {nm : Bs} {s : Sn} (h : atS l nm = some s) : s ∈ l ∧ s.name = nm := ⟨List.mem_of_find?_eq_some h, by simpa using List.find?_some h⟩
theorem atS_none {l : List Sn} {nm : Bs} : atS l nm = none ↔ ∀ s ∈ l, s.name ≠ nm := by simp [atS]
def lwQ (prev : Option Sn) (s : Sn) : Bool :=
  match prev with
  | none => false
  | some q => Op.bytesLess s.name q.name || (s.name == q.name)
def oneS (prev : Option Sn) (s : Sn) : Int := if nmOk s.name then (if (s.kind == 1 || s.kind == 2) && !lwQ prev s then layFaultP s.layer else 1) else 5
def headS : Option Sn → List Sn → Int
  | _, [] => 0
  | prev, s :: r => if oneS prev s = 0 then headS (some s) r else oneS prev s
def lineS (l : List Sn) : Nat → Option Sn → List Sn
  | 0, _ => []
  | _ + 1, none => []
  | f + 1, some s => s :: lineS l f (atS l s.parent)
theorem lineS_none (l : List Sn) (f : Nat) : lineS l f none = [] := by cases f <;> rfl
theorem lineS_len (l : List Sn) : ∀ (f : Nat) (o : Option Sn), (lineS l f o).length ≤ f
  | 0, _ => by simp [lineS]
  | f + 1, none => by simp [lineS]
  | f + 1, some s => by have := lineS_len l f (atS l s.parent); simp [lineS]; omega
theorem lineS_mem {l : List Sn} : ∀ {f : Nat} {o : Option Sn}, (∀ s, o = some s → s ∈ l) → ∀ x ∈ lineS l f o, x ∈ l
  | 0, _, _, x, hx => by simp [lineS] at hx
  | f + 1, none, _, x, hx => by simp [lineS] at hx
  | f + 1, some s, h, x, hx => by
    simp only [lineS, List.mem_cons] at hx
    rcases hx with rfl | hx
    · exact h _ rfl
    · exact lineS_mem (fun y hy => (atS_some hy).1) x hx
def standS (l : List Sn) (s : Sn) : Int :=
  if s.parent = [] then 0 else match atS l s.parent with
  | none => 4
  | some p => if p.kind = 1 then 10 else if 4 < (lineS l 5 (some s)).length then 2 else 0
def standsS (l : List Sn) : List Sn → Int
  | [] => 0
  | s :: r => if standS l s = 0 then standsS l r else standS l s
def snF (l : List Sn) : Int := if 10 < l.length then 2 else if headS none l = 0 then standsS l l else headS none l
def RiseN (l : List Sn) : Prop := l.Pairwise fun x y => Op.bytesLess x.name y.name = true
theorem lwQ_some {q s : Sn} (h : lwQ (some q) s = false) : Op.bytesLess q.name s.name = true := by
  simp only [lwQ, Bool.or_eq_false_iff, beq_eq_false_iff_ne] at h
  exact bl_total _ _ h.1 h.2
theorem lwQ_of {q s : Sn} (h : Op.bytesLess q.name s.name = true) : lwQ (some q) s = false := by
  simp only [lwQ, Bool.or_eq_false_iff, beq_eq_false_iff_ne]
  exact ⟨bl_asymm h, fun e => bl_ne h e.symm⟩
def OwnOk (s : Sn) : Prop := nmOk s.name = true ∧ (s.kind = 1 ∨ s.kind = 2) ∧ layFaultP s.layer = 0
theorem oneS_zero {prev : Option Sn} {s : Sn} : oneS prev s = 0 ↔ OwnOk s ∧ lwQ prev s = false := by
  unfold oneS OwnOk
  by_cases h1 : nmOk s.name = true
  · rw [if_pos h1]
    by_cases h2 : ((s.kind == 1 || s.kind == 2) && !lwQ prev s) = true
    · rw [if_pos h2]
      simp only [Bool.and_eq_true, Bool.or_eq_true, beq_iff_eq, Bool.not_eq_true'] at h2
      exact ⟨fun h => ⟨⟨h1, h2.1, h⟩, h2.2⟩, fun h => h.1.2.2⟩
    · rw [if_neg h2]
      refine ⟨fun h => absurd h (by decide), fun h => absurd ?_ h2⟩
      simp only [Bool.and_eq_true, Bool.or_eq_true, beq_iff_eq, Bool.not_eq_true']
      exact ⟨h.1.2.1, h.2⟩
  · rw [if_neg h1]
    exact ⟨fun h => absurd h (by decide), fun h => absurd h.1.1 h1⟩
theorem headS_zero : ∀ {l : List Sn} {prev : Option Sn}, headS prev l = 0 ↔ (∀ s ∈ l, OwnOk s) ∧ RiseN l ∧ (∀ q s, prev = some q → s ∈ l → Op.bytesLess q.name s.name = true)
  | [], prev => by simp [headS, RiseN]
  | s :: r, prev => by
    have ih := @headS_zero r (some s)
    unfold headS
    by_cases h : oneS prev s = 0
    · rw [if_pos h, ih]
      obtain ⟨h1, h2⟩ := oneS_zero.1 h
      constructor
      · rintro ⟨a1, a2, a3⟩
        refine ⟨fun x hx => ?_, List.pairwise_cons.2 ⟨fun y hy => a3 s y rfl hy, a2⟩, fun q x hq hx => ?_⟩
        · rcases List.mem_cons.1 hx with rfl | hx
          · exact h1
          · exact a1 x hx
        · subst hq
          rcases List.mem_cons.1 hx with rfl | hx
          · exact lwQ_some h2
          · exact bl_trans _ _ _ (lwQ_some h2) (a3 s x rfl hx)
      · rintro ⟨a1, a2, a3⟩
        obtain ⟨b1, b2⟩ := List.pairwise_cons.1 a2
        exact ⟨fun x hx => a1 x (List.mem_cons_of_mem _ hx), b2, fun q x hq hx => by cases hq; exact b1 x hx⟩
    · rw [if_neg h]
      refine ⟨fun e => absurd e h, fun ⟨a1, a2, a3⟩ => absurd (oneS_zero.2 ⟨a1 s (List.mem_cons_self ..), ?_⟩) h⟩
      cases prev with
      | none => rfl
      | some q => exact lwQ_of (a3 q s rfl (List.mem_cons_self ..))
def Stands (l : List Sn) (s : Sn) : Prop := s.parent = [] ∨ ∃ p, atS l s.parent = some p ∧ p.kind ≠ 1 ∧ (lineS l 5 (some s)).length ≤ 4
theorem standS_zero {l : List Sn} {s : Sn} : standS l s = 0 ↔ Stands l s := by
  unfold standS Stands
  by_cases h : s.parent = []
  · simp [h]
  · rw [if_neg h]
    cases hp : atS l s.parent with
    | none => simp [h]
    | some p =>
      simp only [h, false_or, Option.some.injEq, exists_eq_left']
      by_cases h1 : p.kind = 1
      · rw [if_pos h1]; simp [h1]
      · rw [if_neg h1]
        by_cases h2 : 4 < (lineS l 5 (some s)).length
        · rw [if_pos h2]; exact ⟨fun e => absurd e (by decide), fun e => by omega⟩
        · rw [if_neg h2]; exact ⟨fun _ => ⟨h1, by omega⟩, fun _ => rfl⟩
theorem standsS_zero {l : List Sn} : ∀ {r : List Sn}, standsS l r = 0 ↔ ∀ s ∈ r, Stands l s
  | [] => by simp [standsS]
  | s :: r => by
    unfold standsS
    by_cases h : standS l s = 0
    · rw [if_pos h, standsS_zero]
      have := standS_zero.1 h
      simp [this]
    · rw [if_neg h]
      refine ⟨fun e => absurd e h, fun e => absurd (standS_zero.2 (e s (List.mem_cons_self ..))) h⟩
structure RightS (l : List Sn) : Prop where
  len : l.length ≤ 10
  own : ∀ s ∈ l, OwnOk s
  rise : RiseN l
  stand : ∀ s ∈ l, Stands l s
theorem snF_zero {l : List Sn} : snF l = 0 ↔ RightS l := by
  unfold snF
  by_cases h : 10 < l.length
  · rw [if_pos h]; exact ⟨fun e => absurd e (by decide), fun e => by have := e.len; omega⟩
  · rw [if_neg h]
    by_cases h1 : headS none l = 0
    · rw [if_pos h1, standsS_zero]
      obtain ⟨a1, a2, -⟩ := headS_zero.1 h1
      exact ⟨fun e => ⟨by omega, a1, a2, e⟩, fun e => e.stand⟩
    · rw [if_neg h1]
      exact ⟨fun e => absurd e h1, fun e => absurd (headS_zero.2 ⟨e.own, e.rise, fun q s hq => by cases hq⟩) h1⟩
theorem RightS.line {l : List Sn} (h : RightS l) {s : Sn} (hs : s ∈ l) : (lineS l 5 (some s)).length ≤ 4 := by
  rcases h.stand s hs with h1 | ⟨p, -, -, h2⟩
  · have : atS l s.parent = none := by
      rw [h1]
      exact atS_none.2 fun x hx e => nmOk_ne (h.own x hx).1 e
    simp only [lineS, this, List.length_cons]
    simp
  · exact h2
def chainS (l : List Sn) (s : Sn) : List (List En) := ((lineS l 5 (some s)).map Sn.layer).reverse
theorem chainS_len {l : List Sn} (h : RightS l) {s : Sn} (hs : s ∈ l) : (chainS l s).length ≤ 4 := by
  unfold chainS
  rw [List.length_reverse, List.length_map]
  exact h.line hs
theorem chainS_fit {l : List Sn} (h : RightS l) {s : Sn} (hs : s ∈ l) : layersP (chainS l s) = 0 := by
  refine layersP_zero.2 ⟨chainS_len h hs, fun es he => ?_⟩
  unfold chainS at he
  rw [List.mem_reverse, List.mem_map] at he
  obtain ⟨x, hx, rfl⟩ := he
  have := (h.own x (lineS_mem (fun y hy => by cases hy; exact hs) x hx)).2.2
  exact right_P.1 this
theorem atS_mem {l : List Sn} (h : RiseN l) {s : Sn} (hs : s ∈ l) : atS l s.name = some s := by
  induction l with
  | nil => cases hs
  | cons x r ih =>
    obtain ⟨b1, b2⟩ := List.pairwise_cons.1 h
    unfold atS
    rcases List.mem_cons.1 hs with rfl | hs
    · simp
    · have hne : x.name ≠ s.name := bl_ne (b1 s hs)
      rw [List.find?_cons_of_neg (by simpa using hne)]
      exact ih b2 hs
end Go.Proofs.YteegkblkfdnfiaaGreat

namespace Go.Proofs.YteegkblkfdnfiaaGreat
set_option linter.unusedVariables false

def putN (l : List Sn) (s : Sn) : List Sn := l.filter (fun x => Op.bytesLess x.name s.name) ++ s :: l.filter (fun x => Op.bytesLess s.name x.name)
theorem mem_putN {l : List Sn} {s x : Sn} : x ∈ putN l s ↔ x = s ∨ (x ∈ l ∧ x.name ≠ s.name) := by
  unfold putN
  simp only [List.mem_append, List.mem_filter, List.mem_cons]
  constructor
  · rintro (⟨h1, h2⟩ | rfl | ⟨h1, h2⟩)
    · exact .inr ⟨h1, bl_ne h2⟩
    · exact .inl rfl
    · exact .inr ⟨h1, fun e => bl_ne h2 e.symm⟩
  · rintro (rfl | ⟨h1, h2⟩)
    · exact .inr (.inl rfl)
    · cases hb : Op.bytesLess x.name s.name with
      | true => exact .inl ⟨h1, rfl⟩
      | false => exact .inr (.inr ⟨h1, bl_total _ _ hb h2⟩)
theorem putN_rise {l : List Sn} (h : RiseN l) (s : Sn) : RiseN (putN l s) := by
  unfold RiseN putN
  rw [List.pairwise_append]
  refine ⟨h.sublist List.filter_sublist, List.pairwise_cons.2 ⟨fun y hy => (List.mem_filter.1 hy).2, h.sublist List.filter_sublist⟩, fun x hx y hy => ?_⟩
  have h1 := (List.mem_filter.1 hx).2
  rcases List.mem_cons.1 hy with rfl | hy
  · exact h1
  · exact bl_trans _ _ _ h1 (List.mem_filter.1 hy).2
theorem atS_iff {l : List Sn} (h : RiseN l) {nm : Bs} {s : Sn} : atS l nm = some s ↔ s ∈ l ∧ s.name = nm := ⟨atS_some, fun ⟨h1, h2⟩ => by rw [← h2]; exact atS_mem h h1⟩
theorem atS_put {l : List Sn} (h : RiseN l) (s : Sn) (nm : Bs) : atS (putN l s) nm = if nm = s.name then some s else atS l nm := by
  by_cases e : nm = s.name
  · rw [if_pos e]
    exact (atS_iff (putN_rise h s)).2 ⟨mem_putN.2 (.inl rfl), e.symm⟩
  · rw [if_neg e]
    cases hx : atS l nm with
    | none =>
      rw [atS_none] at hx ⊢
      intro x hx'
      rcases mem_putN.1 hx' with rfl | ⟨h1, -⟩
      · exact fun e2 => e e2.symm
      · exact hx x h1
    | some x =>
      obtain ⟨h1, h2⟩ := atS_some hx
      exact (atS_iff (putN_rise h s)).2 ⟨mem_putN.2 (.inr ⟨h1, by rw [h2]; exact e⟩), h2⟩
theorem filter_three : ∀ (l : List Sn) (s : Sn), (l.filter (fun x => Op.bytesLess x.name s.name)).length + (l.filter (fun x => Op.bytesLess s.name x.name)).length + (l.filter (fun x => x.name == s.name)).length = l.length
  | [], s => rfl
  | x :: r, s => by
    have ih := filter_three r s
    by_cases e : x.name = s.name
    · have h1 : Op.bytesLess x.name s.name = false := by rw [e]; exact bl_irrefl _
      have h2 : Op.bytesLess s.name x.name = false := by rw [e]; exact bl_irrefl _
      have h3 : (x.name == s.name) = true := by simpa using e
      simp only [List.filter_cons, h1, h2, h3, Bool.false_eq_true, if_false, if_true, List.length_cons]
      omega
    · have h3 : (x.name == s.name) = false := by simpa using e
      cases hb : Op.bytesLess x.name s.name with
      | true =>
        have h2 := bl_asymm hb
        simp only [List.filter_cons, hb, h2, h3, Bool.false_eq_true, if_false, if_true, List.length_cons]
        omega
      | false =>
        have h2 := bl_total _ _ hb e
        simp only [List.filter_cons, hb, h2, h3, Bool.false_eq_true, if_false, if_true, List.length_cons]
        omega
theorem putN_new {l : List Sn} {s : Sn} (h : atS l s.name = none) : (putN l s).length = l.length + 1 := by
  have h1 := filter_three l s
  have h2 : l.filter (fun x => x.name == s.name) = [] := List.filter_eq_nil_iff.2 fun x hx => by simpa using atS_none.1 h x hx
  rw [h2] at h1
  simp only [List.length_nil] at h1
  simp only [putN, List.length_append, List.length_cons]
  omega
theorem one_name : ∀ {l : List Sn}, RiseN l → ∀ {t : Sn}, t ∈ l → (l.filter (fun x => x.name == t.name)).length = 1
  | [], _, t, ht => by cases ht
  | x :: r, h, t, ht => by
    obtain ⟨b1, b2⟩ := List.pairwise_cons.1 h
    rcases List.mem_cons.1 ht with rfl | ht
    · have : r.filter (fun x => x.name == t.name) = [] := List.filter_eq_nil_iff.2 fun y hy => by
        have := bl_ne (b1 y hy)
        simpa using fun e => this e.symm
      simp [this]
    · have h3 : (x.name == t.name) = false := by simpa using bl_ne (b1 t ht)
      simp only [List.filter_cons, h3, Bool.false_eq_true, if_false]
      exact one_name b2 ht
theorem putN_old {l : List Sn} (h : RiseN l) {s t : Sn} (ht : atS l s.name = some t) : (putN l s).length = l.length := by
  obtain ⟨h1, h2⟩ := atS_some ht
  have h3 := filter_three l s
  have h4 := one_name h h1
  rw [h2] at h4
  rw [h4] at h3
  simp only [putN, List.length_append, List.length_cons]
  omega
theorem putN_perm (l : List Sn) (s : Sn) : (l.filter (fun x => !(x.name == s.name)) ++ [s]).Perm (putN l s) := by
  have key : ∀ r : List Sn, (r.filter (fun x => !(x.name == s.name))).Perm (r.filter (fun x => Op.bytesLess x.name s.name) ++ r.filter (fun x => Op.bytesLess s.name x.name)) := by
    intro r
    induction r with
    | nil => exact List.Perm.nil
    | cons x r ih =>
      by_cases e : x.name = s.name
      · have h1 : Op.bytesLess x.name s.name = false := by rw [e]; exact bl_irrefl _
        have h2 : Op.bytesLess s.name x.name = false := by rw [e]; exact bl_irrefl _
        have h3 : (!(x.name == s.name)) = false := by simpa using e
        simpa only [List.filter_cons, h1, h2, h3, Bool.false_eq_true, if_false] using ih
      · have h3 : (!(x.name == s.name)) = true := by simpa using e
        cases hb : Op.bytesLess x.name s.name with
        | true =>
          have h2 := bl_asymm hb
          simp only [List.filter_cons, hb, h2, h3, Bool.false_eq_true, if_false, if_true, List.cons_append]
          exact ih.cons x
        | false =>
          have h2 := bl_total _ _ hb e
          simp only [List.filter_cons, hb, h2, h3, Bool.false_eq_true, if_false, if_true]
          exact (ih.cons x).trans List.perm_middle.symm
  unfold putN
  refine (List.perm_append_singleton _ _).trans ?_
  exact ((key l).cons s).trans List.perm_middle.symm

theorem line_put {l : List Sn} (h : RiseN l) {s t : Sn} (ht : atS l s.name = some t) (hp : s.parent = t.parent) : ∀ (f : Nat) (o : Option Sn), (∀ x, o = some x → x ∈ l) → lineS (putN l s) f (o.map fun x => if x.name = s.name then s else x) = (lineS l f o).map fun x => if x.name = s.name then s else x
  | 0, o, _ => by simp [lineS]
  | f + 1, none, _ => by simp [lineS]
  | f + 1, some x, hx => by
    have hxl := hx x rfl
    have hpar : (if x.name = s.name then s else x).parent = x.parent := by
      split
      · rename_i e
        have : t = x := by
          have h1 := atS_mem h hxl
          rw [e, ht] at h1
          exact Option.some.inj h1
        rw [hp, this]
      · rfl
    simp only [Option.map_some, lineS, List.map_cons, List.cons.injEq, true_and]
    rw [hpar, atS_put h]
    have := line_put h ht hp f (atS l x.parent) (fun y hy => (atS_some hy).1)
    rw [← this]
    congr 1
    by_cases e : x.parent = s.name
    · rw [if_pos e, e, ht]
      simp [(atS_some ht).2]
    · rw [if_neg e]
      cases hq : atS l x.parent with
      | none => rfl
      | some y =>
        have := (atS_some hq).2
        simp [this, e]
theorem line_new {l : List Sn} (h : RiseN l) {s : Sn} (hn : ∀ x ∈ l, x.parent ≠ s.name) : ∀ (f : Nat) (o : Option Sn), (∀ x, o = some x → x ∈ l) → lineS (putN l s) f o = lineS l f o
  | 0, o, _ => by simp [lineS]
  | f + 1, none, _ => by simp [lineS]
  | f + 1, some x, hx => by
    simp only [lineS, List.cons.injEq, true_and]
    rw [atS_put h, if_neg (hn x (hx x rfl))]
    exact line_new h hn f _ (fun y hy => (atS_some hy).1)
theorem RightS.no_child {l : List Sn} (h : RightS l) {nm : Bs} (hn : atS l nm = none) (h0 : nm ≠ []) : ∀ x ∈ l, x.parent ≠ nm := fun x hx e => by
  rcases h.stand x hx with h1 | ⟨p, h1, -, -⟩
  · exact h0 (e ▸ h1)
  · rw [e, hn] at h1; cases h1
theorem right_new {l : List Sn} (h : RightS l) {s : Sn} (ho : OwnOk s) (hn : atS l s.name = none) (hs : Stands l s) (hl : l.length < 10) (hself : s.parent ≠ s.name) : RightS (putN l s) := by
  have hnc := h.no_child hn (nmOk_ne ho.1)
  refine ⟨by rw [putN_new hn]; omega, fun x hx => ?_, putN_rise h.rise s, fun x hx => ?_⟩
  · rcases mem_putN.1 hx with rfl | ⟨h1, -⟩
    · exact ho
    · exact h.own x h1
  · rcases mem_putN.1 hx with rfl | ⟨h1, -⟩
    · rcases hs with e | ⟨p, e1, e2, e3⟩
      · exact .inl e
      · refine .inr ⟨p, by rw [atS_put h.rise, if_neg hself]; exact e1, e2, ?_⟩
        simp only [lineS] at e3 ⊢
        rw [atS_put h.rise, if_neg hself, line_new h.rise hnc 4 _ (fun y hy => (atS_some hy).1)]
        exact e3
    · rcases h.stand x h1 with e | ⟨p, e1, e2, e3⟩
      · exact .inl e
      · refine .inr ⟨p, by rw [atS_put h.rise, if_neg (hnc x h1)]; exact e1, e2, ?_⟩
        rw [line_new h.rise hnc 5 _ (fun y hy => by cases hy; exact h1)]
        exact e3
theorem right_turn {l : List Sn} (h : RightS l) {s t : Sn} (ho : OwnOk s) (ht : atS l s.name = some t) (hp : s.parent = t.parent) (hk : t.kind ≠ 1 → s.kind ≠ 1) : RightS (putN l s) := by
  obtain ⟨htl, htn⟩ := atS_some ht
  have hline : ∀ x ∈ l, lineS (putN l s) 5 (some (if x.name = s.name then s else x)) = (lineS l 5 (some x)).map fun x => if x.name = s.name then s else x := fun x hx => line_put h.rise ht hp 5 (some x) (fun y hy => by cases hy; exact hx)
  have hst : ∀ x ∈ l, Stands (putN l s) (if x.name = s.name then s else x) := by
    intro x hx
    have hpar : (if x.name = s.name then s else x).parent = x.parent := by
      split
      · rename_i e
        have : t = x := by
          have h1 := atS_mem h.rise hx
          rw [e, ht] at h1
          exact Option.some.inj h1
        rw [hp, this]
      · rfl
    rcases h.stand x hx with e | ⟨p, e1, e2, e3⟩
    · exact .inl (by rw [hpar]; exact e)
    · refine .inr ?_
      rw [hpar, hline x hx, List.length_map, atS_put h.rise]
      by_cases e : x.parent = s.name
      · rw [if_pos e]
        rw [e, ht] at e1
        cases e1
        exact ⟨s, rfl, hk e2, e3⟩
      · rw [if_neg e]
        exact ⟨p, e1, e2, e3⟩
  refine ⟨by rw [putN_old h.rise ht]; exact h.len, fun x hx => ?_, putN_rise h.rise s, fun x hx => ?_⟩
  · rcases mem_putN.1 hx with rfl | ⟨h1, -⟩
    · exact ho
    · exact h.own x h1
  · rcases mem_putN.1 hx with rfl | ⟨h1, h2⟩
    · have := hst t htl
      rwa [if_pos htn] at this
    · have := hst x h1
      rwa [if_neg h2] at this
def offN (l : List Sn) (nm : Bs) : List Sn := l.filter fun x => !(x.name == nm)
end Go.Proofs.YteegkblkfdnfiaaGreat

namespace Go.Proofs.YteegkblkfdnfiaaGreat
set_option linter.unusedVariables false

def growR (l : List Sn) (s : Sn) : Int := if nmOk s.name then (if (atS l s.name).isSome then 7 else if standS l s = 0 then (if 10 ≤ l.length then 2 else 0) else standS l s) else 5
theorem growR_zero {l : List Sn} {s : Sn} : growR l s = 0 ↔ nmOk s.name = true ∧ atS l s.name = none ∧ Stands l s ∧ l.length < 10 := by
  unfold growR
  by_cases h1 : nmOk s.name = true
  · rw [if_pos h1]
    cases h2 : atS l s.name with
    | some t => simp
    | none =>
      simp only [Option.isSome_none, Bool.false_eq_true, if_false, h1, true_and]
      by_cases h3 : standS l s = 0
      · rw [if_pos h3]
        by_cases h4 : 10 ≤ l.length
        · rw [if_pos h4]; exact ⟨fun e => absurd e (by decide), fun e => by omega⟩
        · rw [if_neg h4]; exact ⟨fun _ => ⟨standS_zero.1 h3, by omega⟩, fun _ => rfl⟩
      · rw [if_neg h3]; exact ⟨fun e => absurd e h3, fun e => absurd (standS_zero.2 e.1) h3⟩
  · rw [if_neg h1]; exact ⟨fun e => absurd e (by decide), fun e => absurd e.1 h1⟩
theorem grow_self {l : List Sn} {s : Sn} (h : growR l s = 0) : s.parent ≠ s.name := fun e => by
  obtain ⟨h1, h2, h3, -⟩ := growR_zero.1 h
  rcases h3 with h3 | ⟨p, h3, -⟩
  · rw [h3] at e; exact nmOk_ne h1 e.symm
  · rw [e, h2] at h3; cases h3
theorem grow_right {l : List Sn} (hr : RightS l) {s : Sn} (h : growR l s = 0) (hk : s.kind = 1 ∨ s.kind = 2) (hl : layFaultP s.layer = 0) : RightS (putN l s) := by
  obtain ⟨h1, h2, h3, h4⟩ := growR_zero.1 h
  exact right_new hr ⟨h1, hk, hl⟩ h2 h3 h4 (grow_self h)
end Go.Proofs.YteegkblkfdnfiaaGreat

namespace Go.Proofs.YteegkblkfdnfiaaGreat
set_option linter.unusedVariables false

def lwQ' (l : List Sn) (s : Sn) : List (List En) := ((lineS l 4 (atS l s.parent)).map Sn.layer).reverse
theorem chain_low (l : List Sn) (s : Sn) : chainS l s = lwQ' l s ++ [s.layer] := by
  unfold chainS lwQ'
  have e5 : lineS l 5 (some s) = s :: lineS l 4 (atS l s.parent) := rfl
  rw [e5]
  simp
end Go.Proofs.YteegkblkfdnfiaaGreat

namespace Go.Proofs.YteegkblkfdnfiaaGreat
open Go.RowKit
set_option linter.unusedVariables false

def RdS (w : World) (a : Option Addr) (l : List Sn) : Prop :=
  l ≠ [] → ∃ (b off : Nat) (A : Nat → Option Addr) (C : Nat → Nat), a = some ⟨b, off, none⟩ ∧ b < w.heap.size ∧ ∀ i s, l[i]? = some s →
    w.cell? ⟨b, off + i * 5, none⟩ = some (.string (str s.name)) ∧ w.cell? ⟨b, off + i * 5 + 1, none⟩ = some (.string (str s.parent)) ∧ w.cell? ⟨b, off + i * 5 + 2, none⟩ = some (.int .i64 s.kind) ∧ w.cell? ⟨b, off + i * 5 + 3, none⟩ = some (.bool s.lease) ∧
    w.cell? ⟨b, off + i * 5 + 4, none⟩ = some (.slice (A i) s.layer.length (C i)) ∧ RdE w (A i) s.layer
theorem RdS.nil (w : World) (a : Option Addr) : RdS w a [] := fun h => absurd rfl h
theorem RdS.below {w w' : World} {a : Option Addr} {l : List Sn} (h : RdS w a l) (hk : Below w.heap.size w w') : RdS w' a l := by
  intro hz
  obtain ⟨b, off, A, C, e, hb, hc⟩ := h hz
  refine ⟨b, off, A, C, e, Nat.lt_of_lt_of_le hb hk.size, fun i x hx => ?_⟩
  obtain ⟨c0, c1, c2, c3, c4, r⟩ := hc i x hx
  exact ⟨(hk.cell (p := ⟨b, off + i * 5, none⟩) hb).trans c0, (hk.cell (p := ⟨b, off + i * 5 + 1, none⟩) hb).trans c1, (hk.cell (p := ⟨b, off + i * 5 + 2, none⟩) hb).trans c2, (hk.cell (p := ⟨b, off + i * 5 + 3, none⟩) hb).trans c3, (hk.cell (p := ⟨b, off + i * 5 + 4, none⟩) hb).trans c4, r.below hk⟩
theorem RdS.at {w : World} {a : Option Addr} {l : List Sn} (h : RdS w a l) {k : Nat} (hk : k < l.length) :
    ∃ b off s x c, a = some ⟨b, off, none⟩ ∧ b < w.heap.size ∧ l[k]? = some s ∧ w.cell? ⟨b, off + k * 5, none⟩ = some (.string (str s.name)) ∧ w.cell? ⟨b, off + k * 5 + 1, none⟩ = some (.string (str s.parent)) ∧ w.cell? ⟨b, off + k * 5 + 2, none⟩ = some (.int .i64 s.kind) ∧ w.cell? ⟨b, off + k * 5 + 3, none⟩ = some (.bool s.lease) ∧
      w.cell? ⟨b, off + k * 5 + 4, none⟩ = some (.slice x s.layer.length c) ∧ RdE w x s.layer := by
  obtain ⟨b, off, A, C, e, hb, hc⟩ := h (by intro e; simp [e] at hk)
  have hx : l[k]? = some l[k] := List.getElem?_eq_getElem hk
  obtain ⟨c0, c1, c2, c3, c4, r⟩ := hc k _ hx
  exact ⟨b, off, l[k], A k, C k, e, hb, hx, c0, c1, c2, c3, c4, r⟩
def SmallS (l : List Sn) : Prop := l.length ≤ 1048576 ∧ ∀ s ∈ l, s.name.length ≤ 1048576 ∧ s.parent.length ≤ 1048576 ∧ s.layer.length ≤ 1048576 ∧ SmallE s.layer
theorem RightS.small {l : List Sn} (h : RightS l) (hp : ∀ s ∈ l, s.parent.length ≤ 1048576) (he : ∀ s ∈ l, SmallE s.layer) : SmallS l := by
  refine ⟨by have := h.len; omega, fun s hs => ⟨?_, hp s hs, ?_, he s hs⟩⟩
  · have := (h.own s hs).1
    simp only [nmOk, Bool.and_eq_true, decide_eq_true_eq] at this
    omega
  · have := (right_P.1 (h.own s hs).2.2).len
    omega
end Go.Proofs.YteegkblkfdnfiaaGreat

