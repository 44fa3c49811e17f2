/-
  At every byte slice the law FnSees returns true: what is seen below a directory through layers is what the tree that they make has there. No condition.
-/
import Derived.Test.YtjkmbicedbdifaaGreatOvrR
import Derived.Test.YtjkmbicedbdifaaGreatOvrS
import Derived.Test.YtjkmbicedbdifaaGreatOvrG
import Derived.Test.YtjkmbicedbdifaaGreatTreG
import Derived.ProofKit
import Derived.Deep.CutRange
import Derived.OpenShut
import Derived.ShutString
import Derived.ChangeOld
import Derived.Deep.DrawnRows
import Derived.Deep.RegionHeld3
namespace Go.Proofs.YtjkmbicedbdifaaGreat.fnSees
open Go.ChangeShapes Go.WideShapes Go.ChangeAt Go.RowKit Go.Maps
set_option linter.unusedVariables false
attribute [local go_sem ↓] Go.wp_at_zero Go.wp_at_succ

theorem own : ownKnob Tryz.prog.godebug = none := by kernel_rfl
theorem laidOut : laidOutB Tryz.prog = true := by kernel_rfl

theorem lwBig_no (a : Option Addr) (cap : Nat) (n : Nat) (w : World) (h : n ≤ 1048576) :
    Calls Tryz.prog 5 #[.slice a n cap] w fun e w' => e = .returned (.bool false) ∧ w' = w := by
  have hb : ¬ (1048576 : Int) < (n : Int) := by omega
  go_enter Tryz.func5, Tryz.ntmps5
  go_wp2
  go_ret
  exact ⟨ret_bool (by simp <;> omega), rfl⟩
theorem lwBig_yes (a : Option Addr) (cap : Nat) (n : Nat) (w : World) (h : 1048576 < n) (h2 : n ≤ maxLen) :
    Calls Tryz.prog 5 #[.slice a n cap] w fun e w' => e = .returned (.bool true) ∧ w' = w := by
  have hb : (1048576 : Int) < (n : Int) := by omega
  unfold maxLen at h2
  go_enter Tryz.func5, Tryz.ntmps5
  go_wp2
  go_ret
  exact ⟨ret_bool (by simp <;> omega), rfl⟩
theorem sees_of {ls : List (List En)} {p : Bs} (h : malC ls = 0) : listC (malL ls) p = lovC ls p ∧ listL (malL ls) p = lovL ls p ∧ RightT (malL ls) := by
  obtain ⟨hz, hm, h40⟩ := mal_zero h
  obtain ⟨h4, hR⟩ := layersP_zero.1 hz
  have hfa := all_fit (rights_fit hR)
  have hT := rightT_fit.2 ⟨hfa, h40⟩
  rw [hm]
  have h1 : statC (allE ls) p = plcC ls p := by
    have ha : askT (allE ls) p = askL ls p := by rw [askT, if_pos (rightT_P.2 hT), askL, if_pos hz]
    by_cases hp : askL ls p = 0
    · rw [(look_all hp).1, statC, if_pos (by rw [ha]; exact hp)]
    · rw [(plc_bad hp).1, statC, if_neg (by rw [ha]; exact hp), ha]
  have h2 : listC (allE ls) p = lovC ls p := by
    unfold listC lovC
    rw [h1, rightT_P.2 hT, hz]
    by_cases h5 : p = [47]
    · rw [if_pos h5, if_pos h5]
    · rw [if_neg h5, if_neg h5]
      by_cases h6 : plcC ls p = 0
      · rw [if_pos h6, if_pos h6]
        cases findE (allE ls) p <;> rfl
      · rw [if_neg h6, if_neg h6]
  exact ⟨h2, by rw [listL, lovL, h2], hT⟩
set_option maxRecDepth 100000 in
set_option maxHeartbeats 25600000 in
theorem walk (a0 : Option Addr) (cap0 : Nat) (zs : List Int) (w : World) (h : Reads .u8 w a0 zs) (hu : U8 zs) (hmax : zs.length ≤ maxLen) :
    Calls Tryz.prog 4 #[.slice a0 zs.length cap0] w fun e w' => e = .returned (.bool true) ∧ Below w.heap.size w w' := by
  have HR := hide h
  have HU := hide hu
  clear h hu
  by_cases hbig : 1048576 < zs.length
  · go_enter Tryz.func4, Tryz.ntmps4
    go_wp2_with fail
    refine (lwBig_yes _ _ _ _ hbig hmax).mono ?_
    rintro e w ⟨rfl, rfl⟩
    go_wp2_with fail
    go_ret
    exact ⟨rfl, Below.refl _ _⟩
  · go_enter Tryz.func4, Tryz.ntmps4
    go_wp2_with fail
    refine (lwBig_no _ _ _ _ (by omega)).mono ?_
    rintro e w ⟨rfl, rfl⟩
    go_wp2_with fail
    refine (drawListOver_any a0 cap0 zs _ HR.out HU.out (by omega)).mono ?_
    rintro e w1 ⟨ls, av, cv, p, rfl, hrl, hgl, hpl, hb1⟩
    obtain ⟨hl5, hsl, hgg⟩ := hgl
    have RL := hide hrl
    have HS := hide hsl
    have HG := hide (fun es he => (hgg es he).2)
    have B1 := hide hb1
    clear hrl hsl hgg hb1 HR HU hbig hmax
    go_wp2_with fail
    refine (implListOver_any av cv ls.length ls p w1 RL.out rfl (by omega) HS.out hpl).mono ?_
    rintro r w2 ⟨rv, rc, rfl, hG2, hb2⟩
    have A2 := hide (below_alloc w2 (.cells #[.int .i64 (lovC ls p), .slice rv (lovL ls p).length rc] 28))
    have X2 := hide (Box.new w2 (.int .i64 (lovC ls p)) (.slice rv (lovL ls p).length rc) 28)
    have BW2 := hide (below_next hb2 A2.out)
    have B2 := hide (below_next B1.out BW2.out)
    have RN2 := hide ((OwnS.reads hG2).below A2.out)
    have RL2 := hide (RL.out.below BW2.out)
    clear hG2 hb2 A2 B1 RL BW2
    obtain ⟨⟨t0, t1⟩, t2, t3⟩ := X2.out
    go_wp2_with fail
    clear t0 t1 t2 t3
    generalize w2.alloc (.cells #[.int .i64 (lovC ls p), .slice rv (lovL ls p).length rc] 28) = W2 at *
    generalize w2.heap.size = b2 at *
    refine (implMergeAll_any av cv ls.length ls W2 RL2.out rfl (by omega) HS.out).mono ?_
    rintro r w3 ⟨mv, mc, rfl, hG3, hb3⟩
    have A3 := hide (below_alloc w3 (.cells #[.int .i64 (malC ls), .int .i64 0, .slice mv (malL ls).length mc] 32))
    have X3 := hide (Box3.new w3 (.int .i64 (malC ls)) (.int .i64 0) (.slice mv (malL ls).length mc) 32)
    have BW3 := hide (below_next hb3 A3.out)
    have B3 := hide (below_next B2.out BW3.out)
    have RM3 := hide (hG3.rd.below A3.out)
    have RL3 := hide (RL2.out.below BW3.out)
    have RN3 := hide (RN2.out.below BW3.out)
    have X23 := hide (X2.out.below BW3.out)
    clear hG3 hb3 A3 B2 RL2 RN2 X2 BW3
    have HSP : Hid (∀ u : World, Below (w3.alloc (.cells #[.int .i64 (malC ls), .int .i64 0, .slice mv (malL ls).length mc] 32)).heap.size (w3.alloc (.cells #[.int .i64 (malC ls), .int .i64 0, .slice mv (malL ls).length mc] 32)) u → Calls Tryz.prog 17 #[.slice av ls.length cv, .string (str p)] u (ResN (lovC ls p) (lovL ls p) u)) := hide (fun u hb' => specListOver_any av cv ls.length ls p u (RL3.out.below hb') rfl (by omega) HS.out HG.out hpl)
    by_cases hm : malC ls = 0
    · obtain ⟨hs1, hs2, hRT⟩ := sees_of (p := p) hm
      have HLT := hide (fun u (hu : Below (w3.alloc (.cells #[.int .i64 (malC ls), .int .i64 0, .slice mv (malL ls).length mc] 32)).heap.size (w3.alloc (.cells #[.int .i64 (malC ls), .int .i64 0, .slice mv (malL ls).length mc] 32)) u) => implListTree_any mv mc (malL ls).length (malL ls) p u (RM3.out.below hu) rfl (by have := hRT.len; omega) hRT.small hpl)
      rw [hs1, hs2] at HLT
      have hnl : (lovL ls p).length ≤ 48 := by
        rw [← hs2, listL]
        split
        · have := namesE_len (malL ls) (topQ p)
          have := hRT.len
          omega
        · simp
      rw [hm] at X3 B3 RM3 RL3 RN3 X23 HSP HLT ⊢
      have HPI := hide (fun u (hu : Below (w3.alloc (.cells #[.int .i64 0, .int .i64 0, .slice mv (malL ls).length mc] 32)).heap.size (w3.alloc (.cells #[.int .i64 0, .int .i64 0, .slice mv (malL ls).length mc] 32)) u) => implPlaceOver_any av cv ls.length ls p u (RL3.out.below hu) rfl (by omega) HS.out hpl)
      have HPS0 := hide (fun u (hu : Below (w3.alloc (.cells #[.int .i64 0, .int .i64 0, .slice mv (malL ls).length mc] 32)).heap.size (w3.alloc (.cells #[.int .i64 0, .int .i64 0, .slice mv (malL ls).length mc] 32)) u) => specPlaceOver_any av cv ls.length ls p u (RL3.out.below hu) rfl (by omega) HS.out HG.out hpl)
      have HC0 := hide (show lovC ls p ≠ 0 → lovL ls p = [] from fun h0 => by rw [lovL, if_neg h0])
      generalize malL ls = TT at *
      generalize lovC ls p = C at *
      generalize lovL ls p = NS at *
      generalize plcC ls p = PC at *
      generalize plcV ls p = PV at *
      clear hm hs1 hs2 hRT
      obtain ⟨⟨s0, s1⟩, s2, s3⟩ := X23.out
      obtain ⟨⟨t0, t1, t2⟩, t3, t4, t5⟩ := X3.out
      go_wp2_with fail
      clear s0 s1 s2 s3 t0 t1 t2 t3 t4 t5
      generalize w3.alloc (.cells #[.int .i64 0, .int .i64 0, .slice mv TT.length mc] 32) = W3 at *
      generalize w3.heap.size = b3 at *
      refine (HLT.out W3 (Below.refl _ _)).mono ?_
      rintro r w4 ⟨tv, tc, rfl, hG4, hb4⟩
      have A4 := hide (below_alloc w4 (.cells #[.int .i64 C, .slice tv NS.length tc] 28))
      have X4 := hide (Box.new w4 (.int .i64 C) (.slice tv NS.length tc) 28)
      have BB4 := hide (below_next hb4 A4.out)
      have B4 := hide (below_next B3.out BB4.out)
      have RT4 := hide ((OwnS.reads hG4).below A4.out)
      have RN4 := hide (RN3.out.below BB4.out)
      have X24 := hide (X23.out.below BB4.out)
      clear hG4 hb4 A4 HLT RN3 X23 X3 B3
      obtain ⟨⟨s0, s1⟩, s2, s3⟩ := X24.out
      obtain ⟨⟨t0, t1⟩, t2, t3⟩ := X4.out
      have hcc : (C != C) = false := by simp
      have HLW := hide (lwNames_e rv tv rc tc NS (w4.alloc (.cells #[.int .i64 C, .slice tv NS.length tc] 28)) RN4.out RT4.out (by omega))
      by_cases hc0 : C = 0
      · have hc1 : (C == 0) = true := by simpa using hc0
        clear hc0
        go_wp2_with fail
        refine HLW.out.mono ?_
        rintro r w5 ⟨rfl, hb5⟩
        have BB4' := hide (below_next BB4.out hb5)
        have B4' := hide (below_next B4.out hb5)
        have RN4' := hide (RN4.out.below hb5)
        have X24' := hide (X24.out.below hb5)
        clear s0 s1 s2 s3 t0 t1 t2 t3 BB4 B4 RN4 X24 RT4 X4 hb5 HLW
        have BB4 := BB4'
        have B4 := B4'
        have RN4 := RN4'
        have X24 := X24'
        clear BB4' B4' RN4' X24'
        obtain ⟨W4, hW4⟩ : ∃ W4, W4 = w5 := ⟨_, rfl⟩
        subst hW4
        go_wp2_with fail
        refine (HPI.out W4 BB4.out).mono ?_
        rintro r w7 ⟨rfl, hb7⟩
        have A7 := hide (below_alloc w7 (.cells #[.int .i64 PC, .int .i64 PV] 49))
        have X7 := hide (Box.new w7 (.int .i64 PC) (.int .i64 PV) 49)
        have BB7 := hide (below_next hb7 A7.out)
        have BW7 := hide (below_next BB4.out BB7.out)
        have B7 := hide (below_next B4.out BB7.out)
        have RN8 := hide (RN4.out.below BB7.out)
        have X27 := hide (X24.out.below BB7.out)
        clear hb7 A7 HPI
        obtain ⟨⟨t0, t1⟩, t2, t3⟩ := X7.out
        go_wp2_with fail
        clear t0 t1 t2 t3
        generalize w7.alloc (.cells #[.int .i64 PC, .int .i64 PV] 49) = W8 at *
        generalize w7.heap.size = b8 at *
        have KM : Hid (∀ w' : World, Below W8.heap.size W8 w' → (w'.cell? ⟨b8, 0, none⟩ = some (.int .i64 PC) ∧ w'.cell? ⟨b8, 1, none⟩ = some (.int .i64 PV)) ∧ w'.cell? ⟨b2, 1, none⟩ = some (.slice rv NS.length rc)) := hide (fun w' hb' => ⟨(X7.out.below hb').1, (X27.out.below hb').1.2⟩)
        have HPS := hide (fun u (hu : Below W8.heap.size W8 u) => HPS0.out u (below_next BW7.out hu))
        have HSP8 := hide (fun u (hu : Below W8.heap.size W8 u) => HSP.out u (below_next BW7.out hu))
        have hfi0 : ∀ (w : World), (Instr.field 49 (.agg #[.int .i64 PC, .int .i64 PV]) 0).run Tryz.prog w = .ok (.int .i64 PC) w := fun _ => by kernel_rfl
        have hfi1 : ∀ (w : World), (Instr.field 49 (.agg #[.int .i64 PC, .int .i64 PV]) 1).run Tryz.prog w = .ok (.int .i64 PV) w := fun _ => by kernel_rfl
        have hfn : ∀ (w : World) (v : Value), (Instr.field 28 (.agg #[.int .i64 C, v]) 1).run Tryz.prog w = .ok v w := fun _ _ => by kernel_rfl
        have hs1 : ((str p).toList == [47]) = decide (p = [47]) := by rw [str_toList]; by_cases h47 : p = [47] <;> simp [h47]
        by_cases h47 : p = [47]
        · rw [decide_eq_true h47] at hs1
          clear h47
          refine wp_region_held_drew (S := fun w' => (w'.cell? ⟨b8, 0, none⟩ = some (.int .i64 PC) ∧ w'.cell? ⟨b8, 1, none⟩ = some (.int .i64 PV)) ∧ w'.cell? ⟨b2, 1, none⟩ = some (.slice rv NS.length rc)) (by kernel_rfl) (KM.out _ (Below.refl _ _).drew) (fun hHeld => ?_)
          change wpAnyH _ _ _ _ _ _ (Array.replicate _ false) _ _
          refine wpAnyH_take (i := 0) (oi := { dst := some 56, op := _, type := _, pos := _, after := _, guard := _ }) (v := .string (str p)) rfl (by kernel_rfl) (by kernel_rfl) (by kernel_rfl) (fun _ _ _ h => h) (Or.inl ⟨by rfl, ?_⟩) hHeld ?_
          · intro w hSw
            obtain ⟨⟨q0, q1⟩, q2⟩ := hSw
            go_simp <;> (first | done | (intro _; omega))
          try simp only [Act.put, List.setIfInBounds_toArray, List.set_cons_zero, List.set_cons_succ]
          refine wpAnyH_take (i := 1) (oi := { dst := some 57, op := _, type := _, pos := _, after := _, guard := _ }) (v := .bool true) rfl (by kernel_rfl) (by kernel_rfl) (by kernel_rfl) (fun _ _ _ h => h) (Or.inl ⟨by rfl, ?_⟩) hHeld ?_
          · intro w hSw
            obtain ⟨⟨q0, q1⟩, q2⟩ := hSw
            go_simp <;> (first | done | (intro _; omega))
          try simp only [Act.put, List.setIfInBounds_toArray, List.set_cons_zero, List.set_cons_succ]
          refine wpAnyH_take (i := 2) (oi := { dst := some 58, op := _, type := _, pos := _, after := _, guard := _ }) (v := .bool true) rfl (by kernel_rfl) (by kernel_rfl) (by kernel_rfl) (fun _ _ _ h => h) (Or.inl ⟨by rfl, ?_⟩) hHeld ?_
          · intro w hSw
            obtain ⟨⟨q0, q1⟩, q2⟩ := hSw
            go_simp <;> (first | done | (intro _; omega))
          try simp only [Act.put, List.setIfInBounds_toArray, List.set_cons_zero, List.set_cons_succ]
          refine wpAnyH_take (i := 3) (oi := { dst := some 59, op := _, type := _, pos := _, after := _, guard := _ }) (v := undef) rfl (by kernel_rfl) (by kernel_rfl) (by kernel_rfl) (fun _ _ _ h => h) (Or.inr ⟨by rfl, rfl⟩) hHeld ?_
          try simp only [Act.put, List.setIfInBounds_toArray, List.set_cons_zero, List.set_cons_succ]
          refine wpAnyH_take (i := 4) (oi := { dst := some 60, op := _, type := _, pos := _, after := _, guard := _ }) (v := undef) rfl (by kernel_rfl) (by kernel_rfl) (by kernel_rfl) (fun _ _ _ h => h) (Or.inr ⟨by rfl, rfl⟩) hHeld ?_
          try simp only [Act.put, List.setIfInBounds_toArray, List.set_cons_zero, List.set_cons_succ]
          refine wpAnyH_take (i := 5) (oi := { dst := some 61, op := _, type := _, pos := _, after := _, guard := _ }) (v := undef) rfl (by kernel_rfl) (by kernel_rfl) (by kernel_rfl) (fun _ _ _ h => h) (Or.inr ⟨by rfl, rfl⟩) hHeld ?_
          try simp only [Act.put, List.setIfInBounds_toArray, List.set_cons_zero, List.set_cons_succ]
          refine wpAnyH_take (i := 6) (oi := { dst := some 62, op := _, type := _, pos := _, after := _, guard := _ }) (v := undef) rfl (by kernel_rfl) (by kernel_rfl) (by kernel_rfl) (fun _ _ _ h => h) (Or.inr ⟨by rfl, rfl⟩) hHeld ?_
          try simp only [Act.put, List.setIfInBounds_toArray, List.set_cons_zero, List.set_cons_succ]
          refine wpAnyH_take (i := 7) (oi := { dst := some 63, op := _, type := _, pos := _, after := _, guard := _ }) (v := undef) rfl (by kernel_rfl) (by kernel_rfl) (by kernel_rfl) (fun _ _ _ h => h) (Or.inr ⟨by rfl, rfl⟩) hHeld ?_
          try simp only [Act.put, List.setIfInBounds_toArray, List.set_cons_zero, List.set_cons_succ]
          refine wpAnyH_take (i := 8) (oi := { dst := some 64, op := _, type := _, pos := _, after := _, guard := _ }) (v := undef) rfl (by kernel_rfl) (by kernel_rfl) (by kernel_rfl) (fun _ _ _ h => h) (Or.inr ⟨by rfl, rfl⟩) hHeld ?_
          try simp only [Act.put, List.setIfInBounds_toArray, List.set_cons_zero, List.set_cons_succ]
          refine wpAnyH_take (i := 9) (oi := { dst := some 65, op := _, type := _, pos := _, after := _, guard := _ }) (v := undef) rfl (by kernel_rfl) (by kernel_rfl) (by kernel_rfl) (fun _ _ _ h => h) (Or.inr ⟨by rfl, rfl⟩) hHeld ?_
          try simp only [Act.put, List.setIfInBounds_toArray, List.set_cons_zero, List.set_cons_succ]
          refine wpAnyH_take (i := 10) (oi := { dst := some 66, op := _, type := _, pos := _, after := _, guard := _ }) (v := undef) rfl (by kernel_rfl) (by kernel_rfl) (by kernel_rfl) (fun _ _ _ h => h) (Or.inr ⟨by rfl, rfl⟩) hHeld ?_
          try simp only [Act.put, List.setIfInBounds_toArray, List.set_cons_zero, List.set_cons_succ]
          refine wpAnyH_take (i := 11) (oi := { dst := some 67, op := _, type := _, pos := _, after := _, guard := _ }) (v := undef) rfl (by kernel_rfl) (by kernel_rfl) (by kernel_rfl) (fun _ _ _ h => h) (Or.inr ⟨by rfl, rfl⟩) hHeld ?_
          try simp only [Act.put, List.setIfInBounds_toArray, List.set_cons_zero, List.set_cons_succ]
          refine wpAnyH_take (i := 12) (oi := { dst := some 68, op := _, type := _, pos := _, after := _, guard := _ }) (v := undef) rfl (by kernel_rfl) (by kernel_rfl) (by kernel_rfl) (fun _ _ _ h => h) (Or.inr ⟨by rfl, rfl⟩) hHeld ?_
          try simp only [Act.put, List.setIfInBounds_toArray, List.set_cons_zero, List.set_cons_succ]
          refine wpAnyH_take (i := 13) (oi := { dst := some 69, op := _, type := _, pos := _, after := _, guard := _ }) (v := undef) rfl (by kernel_rfl) (by kernel_rfl) (by kernel_rfl) (fun _ _ _ h => h) (Or.inr ⟨by rfl, rfl⟩) hHeld ?_
          try simp only [Act.put, List.setIfInBounds_toArray, List.set_cons_zero, List.set_cons_succ]
          refine wpAnyH_take (i := 14) (oi := { dst := some 70, op := _, type := _, pos := _, after := _, guard := _ }) (v := undef) rfl (by kernel_rfl) (by kernel_rfl) (by kernel_rfl) (fun _ _ _ h => h) (Or.inr ⟨by rfl, rfl⟩) hHeld ?_
          try simp only [Act.put, List.setIfInBounds_toArray, List.set_cons_zero, List.set_cons_succ]
          refine wpAnyH_take (i := 15) (oi := { dst := some 71, op := _, type := _, pos := _, after := _, guard := _ }) (v := undef) rfl (by kernel_rfl) (by kernel_rfl) (by kernel_rfl) (fun _ _ _ h => h) (Or.inr ⟨by rfl, rfl⟩) hHeld ?_
          try simp only [Act.put, List.setIfInBounds_toArray, List.set_cons_zero, List.set_cons_succ]
          refine wpAnyH_take (i := 16) (oi := { dst := some 72, op := _, type := _, pos := _, after := _, guard := _ }) (v := undef) rfl (by kernel_rfl) (by kernel_rfl) (by kernel_rfl) (fun _ _ _ h => h) (Or.inr ⟨by rfl, rfl⟩) hHeld ?_
          try simp only [Act.put, List.setIfInBounds_toArray, List.set_cons_zero, List.set_cons_succ]
          refine wpAnyH_take (i := 17) (oi := { dst := some 73, op := _, type := _, pos := _, after := _, guard := _ }) (v := undef) rfl (by kernel_rfl) (by kernel_rfl) (by kernel_rfl) (fun _ _ _ h => h) (Or.inr ⟨by rfl, rfl⟩) hHeld ?_
          try simp only [Act.put, List.setIfInBounds_toArray, List.set_cons_zero, List.set_cons_succ]
          refine wpAnyH_take (i := 18) (oi := { dst := some 74, op := _, type := _, pos := _, after := _, guard := _ }) (v := undef) rfl (by kernel_rfl) (by kernel_rfl) (by kernel_rfl) (fun _ _ _ h => h) (Or.inr ⟨by rfl, rfl⟩) hHeld ?_
          try simp only [Act.put, List.setIfInBounds_toArray, List.set_cons_zero, List.set_cons_succ]
          refine wpAnyH_take (i := 19) (oi := { dst := some 75, op := _, type := _, pos := _, after := _, guard := _ }) (v := undef) rfl (by kernel_rfl) (by kernel_rfl) (by kernel_rfl) (fun _ _ _ h => h) (Or.inr ⟨by rfl, rfl⟩) hHeld ?_
          try simp only [Act.put, List.setIfInBounds_toArray, List.set_cons_zero, List.set_cons_succ]
          refine wpAnyH_take (i := 20) (oi := { dst := some 76, op := _, type := _, pos := _, after := _, guard := _ }) (v := undef) rfl (by kernel_rfl) (by kernel_rfl) (by kernel_rfl) (fun _ _ _ h => h) (Or.inr ⟨by rfl, rfl⟩) hHeld ?_
          try simp only [Act.put, List.setIfInBounds_toArray, List.set_cons_zero, List.set_cons_succ]
          refine wpAnyH_take (i := 21) (oi := { dst := some 77, op := _, type := _, pos := _, after := _, guard := _ }) (v := undef) rfl (by kernel_rfl) (by kernel_rfl) (by kernel_rfl) (fun _ _ _ h => h) (Or.inr ⟨by rfl, rfl⟩) hHeld ?_
          try simp only [Act.put, List.setIfInBounds_toArray, List.set_cons_zero, List.set_cons_succ]
          refine wpAnyH_take (i := 22) (oi := { dst := some 78, op := _, type := _, pos := _, after := _, guard := _ }) (v := undef) rfl (by kernel_rfl) (by kernel_rfl) (by kernel_rfl) (fun _ _ _ h => h) (Or.inr ⟨by rfl, rfl⟩) hHeld ?_
          try simp only [Act.put, List.setIfInBounds_toArray, List.set_cons_zero, List.set_cons_succ]
          refine wpAnyH_take (i := 23) (oi := { dst := some 79, op := _, type := _, pos := _, after := _, guard := _ }) (v := undef) rfl (by kernel_rfl) (by kernel_rfl) (by kernel_rfl) (fun _ _ _ h => h) (Or.inr ⟨by rfl, rfl⟩) hHeld ?_
          try simp only [Act.put, List.setIfInBounds_toArray, List.set_cons_zero, List.set_cons_succ]
          refine wpAnyH_take (i := 24) (oi := { dst := some 80, op := _, type := _, pos := _, after := _, guard := _ }) (v := undef) rfl (by kernel_rfl) (by kernel_rfl) (by kernel_rfl) (fun _ _ _ h => h) (Or.inr ⟨by rfl, rfl⟩) hHeld ?_
          try simp only [Act.put, List.setIfInBounds_toArray, List.set_cons_zero, List.set_cons_succ]
          refine wpAnyH_take (i := 25) (oi := { dst := some 81, op := _, type := _, pos := _, after := _, guard := _ }) (v := undef) rfl (by kernel_rfl) (by kernel_rfl) (by kernel_rfl) (fun _ _ _ h => h) (Or.inr ⟨by rfl, rfl⟩) hHeld ?_
          try simp only [Act.put, List.setIfInBounds_toArray, List.set_cons_zero, List.set_cons_succ]
          refine wpAnyH_take (i := 26) (oi := { dst := some 82, op := _, type := _, pos := _, after := _, guard := _ }) (v := undef) rfl (by kernel_rfl) (by kernel_rfl) (by kernel_rfl) (fun _ _ _ h => h) (Or.inr ⟨by rfl, rfl⟩) hHeld ?_
          try simp only [Act.put, List.setIfInBounds_toArray, List.set_cons_zero, List.set_cons_succ]
          refine wpAnyH_take (i := 27) (oi := { dst := some 83, op := _, type := _, pos := _, after := _, guard := _ }) (v := undef) rfl (by kernel_rfl) (by kernel_rfl) (by kernel_rfl) (fun _ _ _ h => h) (Or.inr ⟨by rfl, rfl⟩) hHeld ?_
          try simp only [Act.put, List.setIfInBounds_toArray, List.set_cons_zero, List.set_cons_succ]
          refine wpAnyH_take (i := 28) (oi := { dst := some 84, op := _, type := _, pos := _, after := _, guard := _ }) (v := .bool true) rfl (by kernel_rfl) (by kernel_rfl) (by kernel_rfl) (fun _ _ _ h => h) (Or.inl ⟨by rfl, ?_⟩) hHeld ?_
          · intro w hSw
            obtain ⟨⟨q0, q1⟩, q2⟩ := hSw
            go_simp <;> (first | done | (intro _; omega))
          try simp only [Act.put, List.setIfInBounds_toArray, List.set_cons_zero, List.set_cons_succ]
          refine wpAnyH_take (i := 29) (oi := { dst := some 2, op := _, type := _, pos := _, after := _, guard := _ }) (v := .bool true) rfl (by kernel_rfl) (by kernel_rfl) (by kernel_rfl) (fun _ _ _ h => h) (Or.inl ⟨by rfl, ?_⟩) hHeld ?_
          · intro w hSw
            obtain ⟨⟨q0, q1⟩, q2⟩ := hSw
            go_simp <;> (first | done | (intro _; omega))
          try simp only [Act.put, List.setIfInBounds_toArray, List.set_cons_zero, List.set_cons_succ]
          refine wpAnyH_done (by kernel_rfl) ?_ _
          go_wp2_with fail
          go_ret
          exact ⟨rfl, B7.out.drew⟩
        · rw [decide_eq_false h47] at hs1
          clear h47
          refine wp_region_held_drew (S := fun w' => (w'.cell? ⟨b8, 0, none⟩ = some (.int .i64 PC) ∧ w'.cell? ⟨b8, 1, none⟩ = some (.int .i64 PV)) ∧ w'.cell? ⟨b2, 1, none⟩ = some (.slice rv NS.length rc)) (by kernel_rfl) (KM.out _ (Below.refl _ _).drew) (fun hHeld => ?_)
          change wpAnyH _ _ _ _ _ _ (Array.replicate _ false) _ _
          refine wpAnyH_take (i := 0) (oi := { dst := some 56, op := _, type := _, pos := _, after := _, guard := _ }) (v := .string (str p)) rfl (by kernel_rfl) (by kernel_rfl) (by kernel_rfl) (fun _ _ _ h => h) (Or.inl ⟨by rfl, ?_⟩) hHeld ?_
          · intro w hSw
            obtain ⟨⟨q0, q1⟩, q2⟩ := hSw
            go_simp <;> (first | done | (intro _; omega))
          try simp only [Act.put, List.setIfInBounds_toArray, List.set_cons_zero, List.set_cons_succ]
          refine wpAnyH_take (i := 1) (oi := { dst := some 57, op := _, type := _, pos := _, after := _, guard := _ }) (v := .bool false) rfl (by kernel_rfl) (by kernel_rfl) (by kernel_rfl) (fun _ _ _ h => h) (Or.inl ⟨by rfl, ?_⟩) hHeld ?_
          · intro w hSw
            obtain ⟨⟨q0, q1⟩, q2⟩ := hSw
            go_simp <;> (first | done | (intro _; omega))
          try simp only [Act.put, List.setIfInBounds_toArray, List.set_cons_zero, List.set_cons_succ]
          refine wpAnyH_take (i := 2) (oi := { dst := some 58, op := _, type := _, pos := _, after := _, guard := _ }) (v := .bool false) rfl (by kernel_rfl) (by kernel_rfl) (by kernel_rfl) (fun _ _ _ h => h) (Or.inl ⟨by rfl, ?_⟩) hHeld ?_
          · intro w hSw
            obtain ⟨⟨q0, q1⟩, q2⟩ := hSw
            go_simp <;> (first | done | (intro _; omega))
          try simp only [Act.put, List.setIfInBounds_toArray, List.set_cons_zero, List.set_cons_succ]
          refine wpAnyH_take (i := 3) (oi := { dst := some 59, op := _, type := _, pos := _, after := _, guard := _ }) (v := .pointer (some ⟨b8, 0, none⟩)) rfl (by kernel_rfl) (by kernel_rfl) (by kernel_rfl) (fun _ _ _ h => h) (Or.inl ⟨by rfl, ?_⟩) hHeld ?_
          · intro w hSw
            obtain ⟨⟨q0, q1⟩, q2⟩ := hSw
            go_simp <;> (first | done | (intro _; omega))
          try simp only [Act.put, List.setIfInBounds_toArray, List.set_cons_zero, List.set_cons_succ]
          refine wpAnyH_take (i := 4) (oi := { dst := some 60, op := _, type := _, pos := _, after := _, guard := _ }) (v := .int .i64 PC) rfl (by kernel_rfl) (by kernel_rfl) (by kernel_rfl) (fun _ _ _ h => h) (Or.inl ⟨by rfl, ?_⟩) hHeld ?_
          · intro w hSw
            obtain ⟨⟨q0, q1⟩, q2⟩ := hSw
            go_simp <;> (first | done | (intro _; omega))
          try simp only [Act.put, List.setIfInBounds_toArray, List.set_cons_zero, List.set_cons_succ]
          refine wpAnyH_take (i := 5) (oi := { dst := some 61, op := _, type := _, pos := _, after := _, guard := _ }) (v := .slice av ls.length cv) rfl (by kernel_rfl) (by kernel_rfl) (by kernel_rfl) (fun _ _ _ h => h) (Or.inl ⟨by rfl, ?_⟩) hHeld ?_
          · intro w hSw
            obtain ⟨⟨q0, q1⟩, q2⟩ := hSw
            go_simp <;> (first | done | (intro _; omega))
          try simp only [Act.put, List.setIfInBounds_toArray, List.set_cons_zero, List.set_cons_succ]
          refine wpAnyH_take (i := 6) (oi := { dst := some 62, op := _, type := _, pos := _, after := _, guard := _ }) (v := .string (str p)) rfl (by kernel_rfl) (by kernel_rfl) (by kernel_rfl) (fun _ _ _ h => h) (Or.inl ⟨by rfl, ?_⟩) hHeld ?_
          · intro w hSw
            obtain ⟨⟨q0, q1⟩, q2⟩ := hSw
            go_simp <;> (first | done | (intro _; omega))
          try simp only [Act.put, List.setIfInBounds_toArray, List.set_cons_zero, List.set_cons_succ]
          refine wpAnyH_ready (rs := [7]) (by kernel_rfl) (by simp) ?_
          refine AllReadyH.cons rfl (fun K hK => ?_) AllReadyH.nil
          go_simp
          refine (HPS.out _ (Below.refl _ _).drew).mono ?_
          rintro r w9 ⟨rfl, hb9⟩
          have BB1 := hide ((Below.refl W8.heap.size W8).drew.trans hb9)
          clear hb9
          go_wp2_with fail
          refine hK.out _ _ (KM.out _ BB1.out) (fun hHeld => ?_)
          clear hK K
          try simp only [Act.put, List.setIfInBounds_toArray, List.set_cons_zero, List.set_cons_succ]
          refine wpAnyH_take (i := 8) (oi := { dst := some 64, op := _, type := _, pos := _, after := _, guard := _ }) (v := .int .i64 PC) rfl (by kernel_rfl) (by kernel_rfl) (by kernel_rfl) (fun _ _ _ h => h) (Or.inl ⟨by rfl, ?_⟩) hHeld ?_
          · intro w hSw
            obtain ⟨⟨q0, q1⟩, q2⟩ := hSw
            go_simp <;> (first | done | (intro _; omega))
          try simp only [Act.put, List.setIfInBounds_toArray, List.set_cons_zero, List.set_cons_succ]
          refine wpAnyH_take (i := 9) (oi := { dst := some 65, op := _, type := _, pos := _, after := _, guard := _ }) (v := .bool true) rfl (by kernel_rfl) (by kernel_rfl) (by kernel_rfl) (fun _ _ _ h => h) (Or.inl ⟨by rfl, ?_⟩) hHeld ?_
          · intro w hSw
            obtain ⟨⟨q0, q1⟩, q2⟩ := hSw
            go_simp <;> (first | done | (intro _; omega))
          try simp only [Act.put, List.setIfInBounds_toArray, List.set_cons_zero, List.set_cons_succ]
          refine wpAnyH_take (i := 10) (oi := { dst := some 66, op := _, type := _, pos := _, after := _, guard := _ }) (v := .bool true) rfl (by kernel_rfl) (by kernel_rfl) (by kernel_rfl) (fun _ _ _ h => h) (Or.inl ⟨by rfl, ?_⟩) hHeld ?_
          · intro w hSw
            obtain ⟨⟨q0, q1⟩, q2⟩ := hSw
            go_simp <;> (first | done | (intro _; omega))
          try simp only [Act.put, List.setIfInBounds_toArray, List.set_cons_zero, List.set_cons_succ]
          refine wpAnyH_take (i := 11) (oi := { dst := some 67, op := _, type := _, pos := _, after := _, guard := _ }) (v := .pointer (some ⟨b8, 1, none⟩)) rfl (by kernel_rfl) (by kernel_rfl) (by kernel_rfl) (fun _ _ _ h => h) (Or.inl ⟨by rfl, ?_⟩) hHeld ?_
          · intro w hSw
            obtain ⟨⟨q0, q1⟩, q2⟩ := hSw
            go_simp <;> (first | done | (intro _; omega))
          try simp only [Act.put, List.setIfInBounds_toArray, List.set_cons_zero, List.set_cons_succ]
          refine wpAnyH_take (i := 12) (oi := { dst := some 68, op := _, type := _, pos := _, after := _, guard := _ }) (v := .int .i64 PV) rfl (by kernel_rfl) (by kernel_rfl) (by kernel_rfl) (fun _ _ _ h => h) (Or.inl ⟨by rfl, ?_⟩) hHeld ?_
          · intro w hSw
            obtain ⟨⟨q0, q1⟩, q2⟩ := hSw
            go_simp <;> (first | done | (intro _; omega))
          try simp only [Act.put, List.setIfInBounds_toArray, List.set_cons_zero, List.set_cons_succ]
          refine wpAnyH_take (i := 13) (oi := { dst := some 69, op := _, type := _, pos := _, after := _, guard := _ }) (v := .slice av ls.length cv) rfl (by kernel_rfl) (by kernel_rfl) (by kernel_rfl) (fun _ _ _ h => h) (Or.inl ⟨by rfl, ?_⟩) hHeld ?_
          · intro w hSw
            obtain ⟨⟨q0, q1⟩, q2⟩ := hSw
            go_simp <;> (first | done | (intro _; omega))
          try simp only [Act.put, List.setIfInBounds_toArray, List.set_cons_zero, List.set_cons_succ]
          refine wpAnyH_take (i := 14) (oi := { dst := some 70, op := _, type := _, pos := _, after := _, guard := _ }) (v := .string (str p)) rfl (by kernel_rfl) (by kernel_rfl) (by kernel_rfl) (fun _ _ _ h => h) (Or.inl ⟨by rfl, ?_⟩) hHeld ?_
          · intro w hSw
            obtain ⟨⟨q0, q1⟩, q2⟩ := hSw
            go_simp <;> (first | done | (intro _; omega))
          try simp only [Act.put, List.setIfInBounds_toArray, List.set_cons_zero, List.set_cons_succ]
          refine wpAnyH_ready (rs := [15]) (by kernel_rfl) (by simp) ?_
          refine AllReadyH.cons rfl (fun K hK => ?_) AllReadyH.nil
          go_simp
          refine (HPS.out _ BB1.out).mono ?_
          rintro r w10 ⟨rfl, hb10⟩
          have BB2 := hide (below_next BB1.out hb10)
          clear hb10
          go_wp2_with fail
          refine hK.out _ _ (KM.out _ BB2.out) (fun hHeld => ?_)
          clear hK K
          try simp only [Act.put, List.setIfInBounds_toArray, List.set_cons_zero, List.set_cons_succ]
          refine wpAnyH_take (i := 16) (oi := { dst := some 72, op := _, type := _, pos := _, after := _, guard := _ }) (v := .int .i64 PV) rfl (by kernel_rfl) (by kernel_rfl) (by kernel_rfl) (fun _ _ _ h => h) (Or.inl ⟨by rfl, ?_⟩) hHeld ?_
          · intro w hSw
            obtain ⟨⟨q0, q1⟩, q2⟩ := hSw
            go_simp <;> (first | done | (intro _; omega))
          try simp only [Act.put, List.setIfInBounds_toArray, List.set_cons_zero, List.set_cons_succ]
          refine wpAnyH_take (i := 17) (oi := { dst := some 73, op := _, type := _, pos := _, after := _, guard := _ }) (v := .bool true) rfl (by kernel_rfl) (by kernel_rfl) (by kernel_rfl) (fun _ _ _ h => h) (Or.inl ⟨by rfl, ?_⟩) hHeld ?_
          · intro w hSw
            obtain ⟨⟨q0, q1⟩, q2⟩ := hSw
            go_simp <;> (first | done | (intro _; omega))
          try simp only [Act.put, List.setIfInBounds_toArray, List.set_cons_zero, List.set_cons_succ]
          refine wpAnyH_take (i := 18) (oi := { dst := some 74, op := _, type := _, pos := _, after := _, guard := _ }) (v := .bool true) rfl (by kernel_rfl) (by kernel_rfl) (by kernel_rfl) (fun _ _ _ h => h) (Or.inl ⟨by rfl, ?_⟩) hHeld ?_
          · intro w hSw
            obtain ⟨⟨q0, q1⟩, q2⟩ := hSw
            go_simp <;> (first | done | (intro _; omega))
          try simp only [Act.put, List.setIfInBounds_toArray, List.set_cons_zero, List.set_cons_succ]
          refine wpAnyH_take (i := 19) (oi := { dst := some 75, op := _, type := _, pos := _, after := _, guard := _ }) (v := .bool true) rfl (by kernel_rfl) (by kernel_rfl) (by kernel_rfl) (fun _ _ _ h => h) (Or.inl ⟨by rfl, ?_⟩) hHeld ?_
          · intro w hSw
            obtain ⟨⟨q0, q1⟩, q2⟩ := hSw
            go_simp <;> (first | done | (intro _; omega))
          try simp only [Act.put, List.setIfInBounds_toArray, List.set_cons_zero, List.set_cons_succ]
          refine wpAnyH_take (i := 20) (oi := { dst := some 76, op := _, type := _, pos := _, after := _, guard := _ }) (v := .pointer (some ⟨b2, 1, none⟩)) rfl (by kernel_rfl) (by kernel_rfl) (by kernel_rfl) (fun _ _ _ h => h) (Or.inl ⟨by rfl, ?_⟩) hHeld ?_
          · intro w hSw
            obtain ⟨⟨q0, q1⟩, q2⟩ := hSw
            go_simp <;> (first | done | (intro _; omega))
          try simp only [Act.put, List.setIfInBounds_toArray, List.set_cons_zero, List.set_cons_succ]
          refine wpAnyH_take (i := 21) (oi := { dst := some 77, op := _, type := _, pos := _, after := _, guard := _ }) (v := .slice rv NS.length rc) rfl (by kernel_rfl) (by kernel_rfl) (by kernel_rfl) (fun _ _ _ h => h) (Or.inl ⟨by rfl, ?_⟩) hHeld ?_
          · intro w hSw
            obtain ⟨⟨q0, q1⟩, q2⟩ := hSw
            go_simp <;> (first | done | (intro _; omega))
          try simp only [Act.put, List.setIfInBounds_toArray, List.set_cons_zero, List.set_cons_succ]
          refine wpAnyH_take (i := 22) (oi := { dst := some 78, op := _, type := _, pos := _, after := _, guard := _ }) (v := .slice av ls.length cv) rfl (by kernel_rfl) (by kernel_rfl) (by kernel_rfl) (fun _ _ _ h => h) (Or.inl ⟨by rfl, ?_⟩) hHeld ?_
          · intro w hSw
            obtain ⟨⟨q0, q1⟩, q2⟩ := hSw
            go_simp <;> (first | done | (intro _; omega))
          try simp only [Act.put, List.setIfInBounds_toArray, List.set_cons_zero, List.set_cons_succ]
          refine wpAnyH_take (i := 23) (oi := { dst := some 79, op := _, type := _, pos := _, after := _, guard := _ }) (v := .string (str p)) rfl (by kernel_rfl) (by kernel_rfl) (by kernel_rfl) (fun _ _ _ h => h) (Or.inl ⟨by rfl, ?_⟩) hHeld ?_
          · intro w hSw
            obtain ⟨⟨q0, q1⟩, q2⟩ := hSw
            go_simp <;> (first | done | (intro _; omega))
          try simp only [Act.put, List.setIfInBounds_toArray, List.set_cons_zero, List.set_cons_succ]
          refine wpAnyH_ready (rs := [24]) (by kernel_rfl) (by simp) ?_
          refine AllReadyH.cons rfl (fun K hK => ?_) AllReadyH.nil
          go_simp
          refine (HSP8.out _ BB2.out).mono ?_
          rintro r w11 ⟨xv, xc, rfl, hO11, hb11⟩
          have BB3 := hide (below_next BB2.out hb11)
          have RX := hide (OwnS.reads hO11)
          clear hb11 hO11
          go_wp2_with fail
          refine hK.out _ _ (KM.out _ BB3.out) (fun hHeld => ?_)
          clear hK K
          try simp only [Act.put, List.setIfInBounds_toArray, List.set_cons_zero, List.set_cons_succ]
          refine wpAnyH_take (i := 25) (oi := { dst := some 81, op := _, type := _, pos := _, after := _, guard := _ }) (v := .slice xv NS.length xc) rfl (by kernel_rfl) (by kernel_rfl) (by kernel_rfl) (fun _ _ _ h => h) (Or.inl ⟨by rfl, ?_⟩) hHeld ?_
          · intro w hSw
            obtain ⟨⟨q0, q1⟩, q2⟩ := hSw
            go_simp <;> (first | done | (intro _; omega))
          try simp only [Act.put, List.setIfInBounds_toArray, List.set_cons_zero, List.set_cons_succ]
          refine wpAnyH_ready (rs := [26]) (by kernel_rfl) (by simp) ?_
          refine AllReadyH.cons rfl (fun K hK => ?_) AllReadyH.nil
          go_simp
          refine (lwNames_e rv xv rc xc NS _ (RN8.out.below BB3.out) RX.out (by omega)).mono ?_
          rintro r w12 ⟨rfl, hb12⟩
          have BB5 := hide (below_next BB3.out hb12)
          clear hb12
          go_wp2_with fail
          refine hK.out _ _ (KM.out _ BB5.out) (fun hHeld => ?_)
          clear hK K
          try simp only [Act.put, List.setIfInBounds_toArray, List.set_cons_zero, List.set_cons_succ]
          refine wpAnyH_take (i := 27) (oi := { dst := some 83, op := _, type := _, pos := _, after := _, guard := _ }) (v := .bool true) rfl (by kernel_rfl) (by kernel_rfl) (by kernel_rfl) (fun _ _ _ h => h) (Or.inl ⟨by rfl, ?_⟩) hHeld ?_
          · intro w hSw
            obtain ⟨⟨q0, q1⟩, q2⟩ := hSw
            go_simp <;> (first | done | (intro _; omega))
          try simp only [Act.put, List.setIfInBounds_toArray, List.set_cons_zero, List.set_cons_succ]
          refine wpAnyH_take (i := 28) (oi := { dst := some 84, op := _, type := _, pos := _, after := _, guard := _ }) (v := .bool true) rfl (by kernel_rfl) (by kernel_rfl) (by kernel_rfl) (fun _ _ _ h => h) (Or.inl ⟨by rfl, ?_⟩) hHeld ?_
          · intro w hSw
            obtain ⟨⟨q0, q1⟩, q2⟩ := hSw
            go_simp <;> (first | done | (intro _; omega))
          try simp only [Act.put, List.setIfInBounds_toArray, List.set_cons_zero, List.set_cons_succ]
          refine wpAnyH_take (i := 29) (oi := { dst := some 2, op := _, type := _, pos := _, after := _, guard := _ }) (v := .bool true) rfl (by kernel_rfl) (by kernel_rfl) (by kernel_rfl) (fun _ _ _ h => h) (Or.inl ⟨by rfl, ?_⟩) hHeld ?_
          · intro w hSw
            obtain ⟨⟨q0, q1⟩, q2⟩ := hSw
            go_simp <;> (first | done | (intro _; omega))
          try simp only [Act.put, List.setIfInBounds_toArray, List.set_cons_zero, List.set_cons_succ]
          refine wpAnyH_done (by kernel_rfl) ?_ _
          go_wp2_with fail
          go_ret
          exact ⟨rfl, below_next B7.out BB5.out⟩
      · have hc1 : (C == 0) = false := by simpa using hc0
        clear hc0
        go_wp2_with fail
        clear s0 s1 s2 s3 t0 t1 t2 t3
        generalize w4.alloc (.cells #[.int .i64 C, .slice tv NS.length tc] 28) = W4 at *
        refine (HPI.out W4 BB4.out).mono ?_
        rintro r w7 ⟨rfl, hb7⟩
        have A7 := hide (below_alloc w7 (.cells #[.int .i64 PC, .int .i64 PV] 49))
        have X7 := hide (Box.new w7 (.int .i64 PC) (.int .i64 PV) 49)
        have BB7 := hide (below_next hb7 A7.out)
        have BW7 := hide (below_next BB4.out BB7.out)
        have B7 := hide (below_next B4.out BB7.out)
        have RN8 := hide (RN4.out.below BB7.out)
        have X27 := hide (X24.out.below BB7.out)
        clear hb7 A7 HPI
        obtain ⟨⟨t0, t1⟩, t2, t3⟩ := X7.out
        go_wp2_with fail
        clear t0 t1 t2 t3
        generalize w7.alloc (.cells #[.int .i64 PC, .int .i64 PV] 49) = W8 at *
        generalize w7.heap.size = b8 at *
        have KM : Hid (∀ w' : World, Below W8.heap.size W8 w' → (w'.cell? ⟨b8, 0, none⟩ = some (.int .i64 PC) ∧ w'.cell? ⟨b8, 1, none⟩ = some (.int .i64 PV)) ∧ w'.cell? ⟨b2, 1, none⟩ = some (.slice rv NS.length rc)) := hide (fun w' hb' => ⟨(X7.out.below hb').1, (X27.out.below hb').1.2⟩)
        have HPS := hide (fun u (hu : Below W8.heap.size W8 u) => HPS0.out u (below_next BW7.out hu))
        have HSP8 := hide (fun u (hu : Below W8.heap.size W8 u) => HSP.out u (below_next BW7.out hu))
        have hfi0 : ∀ (w : World), (Instr.field 49 (.agg #[.int .i64 PC, .int .i64 PV]) 0).run Tryz.prog w = .ok (.int .i64 PC) w := fun _ => by kernel_rfl
        have hfi1 : ∀ (w : World), (Instr.field 49 (.agg #[.int .i64 PC, .int .i64 PV]) 1).run Tryz.prog w = .ok (.int .i64 PV) w := fun _ => by kernel_rfl
        have hfn : ∀ (w : World) (v : Value), (Instr.field 28 (.agg #[.int .i64 C, v]) 1).run Tryz.prog w = .ok v w := fun _ _ => by kernel_rfl
        have hs1 : ((str p).toList == [47]) = decide (p = [47]) := by rw [str_toList]; by_cases h47 : p = [47] <;> simp [h47]
        by_cases h47 : p = [47]
        · rw [decide_eq_true h47] at hs1
          clear h47
          refine wp_region_held_drew (S := fun w' => (w'.cell? ⟨b8, 0, none⟩ = some (.int .i64 PC) ∧ w'.cell? ⟨b8, 1, none⟩ = some (.int .i64 PV)) ∧ w'.cell? ⟨b2, 1, none⟩ = some (.slice rv NS.length rc)) (by kernel_rfl) (KM.out _ (Below.refl _ _).drew) (fun hHeld => ?_)
          change wpAnyH _ _ _ _ _ _ (Array.replicate _ false) _ _
          refine wpAnyH_take (i := 0) (oi := { dst := some 56, op := _, type := _, pos := _, after := _, guard := _ }) (v := .string (str p)) rfl (by kernel_rfl) (by kernel_rfl) (by kernel_rfl) (fun _ _ _ h => h) (Or.inl ⟨by rfl, ?_⟩) hHeld ?_
          · intro w hSw
            obtain ⟨⟨q0, q1⟩, q2⟩ := hSw
            go_simp <;> (first | done | (intro _; omega))
          try simp only [Act.put, List.setIfInBounds_toArray, List.set_cons_zero, List.set_cons_succ]
          refine wpAnyH_take (i := 1) (oi := { dst := some 57, op := _, type := _, pos := _, after := _, guard := _ }) (v := .bool true) rfl (by kernel_rfl) (by kernel_rfl) (by kernel_rfl) (fun _ _ _ h => h) (Or.inl ⟨by rfl, ?_⟩) hHeld ?_
          · intro w hSw
            obtain ⟨⟨q0, q1⟩, q2⟩ := hSw
            go_simp <;> (first | done | (intro _; omega))
          try simp only [Act.put, List.setIfInBounds_toArray, List.set_cons_zero, List.set_cons_succ]
          refine wpAnyH_take (i := 2) (oi := { dst := some 58, op := _, type := _, pos := _, after := _, guard := _ }) (v := .bool true) rfl (by kernel_rfl) (by kernel_rfl) (by kernel_rfl) (fun _ _ _ h => h) (Or.inl ⟨by rfl, ?_⟩) hHeld ?_
          · intro w hSw
            obtain ⟨⟨q0, q1⟩, q2⟩ := hSw
            go_simp <;> (first | done | (intro _; omega))
          try simp only [Act.put, List.setIfInBounds_toArray, List.set_cons_zero, List.set_cons_succ]
          refine wpAnyH_take (i := 3) (oi := { dst := some 59, op := _, type := _, pos := _, after := _, guard := _ }) (v := undef) rfl (by kernel_rfl) (by kernel_rfl) (by kernel_rfl) (fun _ _ _ h => h) (Or.inr ⟨by rfl, rfl⟩) hHeld ?_
          try simp only [Act.put, List.setIfInBounds_toArray, List.set_cons_zero, List.set_cons_succ]
          refine wpAnyH_take (i := 4) (oi := { dst := some 60, op := _, type := _, pos := _, after := _, guard := _ }) (v := undef) rfl (by kernel_rfl) (by kernel_rfl) (by kernel_rfl) (fun _ _ _ h => h) (Or.inr ⟨by rfl, rfl⟩) hHeld ?_
          try simp only [Act.put, List.setIfInBounds_toArray, List.set_cons_zero, List.set_cons_succ]
          refine wpAnyH_take (i := 5) (oi := { dst := some 61, op := _, type := _, pos := _, after := _, guard := _ }) (v := undef) rfl (by kernel_rfl) (by kernel_rfl) (by kernel_rfl) (fun _ _ _ h => h) (Or.inr ⟨by rfl, rfl⟩) hHeld ?_
          try simp only [Act.put, List.setIfInBounds_toArray, List.set_cons_zero, List.set_cons_succ]
          refine wpAnyH_take (i := 6) (oi := { dst := some 62, op := _, type := _, pos := _, after := _, guard := _ }) (v := undef) rfl (by kernel_rfl) (by kernel_rfl) (by kernel_rfl) (fun _ _ _ h => h) (Or.inr ⟨by rfl, rfl⟩) hHeld ?_
          try simp only [Act.put, List.setIfInBounds_toArray, List.set_cons_zero, List.set_cons_succ]
          refine wpAnyH_take (i := 7) (oi := { dst := some 63, op := _, type := _, pos := _, after := _, guard := _ }) (v := undef) rfl (by kernel_rfl) (by kernel_rfl) (by kernel_rfl) (fun _ _ _ h => h) (Or.inr ⟨by rfl, rfl⟩) hHeld ?_
          try simp only [Act.put, List.setIfInBounds_toArray, List.set_cons_zero, List.set_cons_succ]
          refine wpAnyH_take (i := 8) (oi := { dst := some 64, op := _, type := _, pos := _, after := _, guard := _ }) (v := undef) rfl (by kernel_rfl) (by kernel_rfl) (by kernel_rfl) (fun _ _ _ h => h) (Or.inr ⟨by rfl, rfl⟩) hHeld ?_
          try simp only [Act.put, List.setIfInBounds_toArray, List.set_cons_zero, List.set_cons_succ]
          refine wpAnyH_take (i := 9) (oi := { dst := some 65, op := _, type := _, pos := _, after := _, guard := _ }) (v := undef) rfl (by kernel_rfl) (by kernel_rfl) (by kernel_rfl) (fun _ _ _ h => h) (Or.inr ⟨by rfl, rfl⟩) hHeld ?_
          try simp only [Act.put, List.setIfInBounds_toArray, List.set_cons_zero, List.set_cons_succ]
          refine wpAnyH_take (i := 10) (oi := { dst := some 66, op := _, type := _, pos := _, after := _, guard := _ }) (v := undef) rfl (by kernel_rfl) (by kernel_rfl) (by kernel_rfl) (fun _ _ _ h => h) (Or.inr ⟨by rfl, rfl⟩) hHeld ?_
          try simp only [Act.put, List.setIfInBounds_toArray, List.set_cons_zero, List.set_cons_succ]
          refine wpAnyH_take (i := 11) (oi := { dst := some 67, op := _, type := _, pos := _, after := _, guard := _ }) (v := undef) rfl (by kernel_rfl) (by kernel_rfl) (by kernel_rfl) (fun _ _ _ h => h) (Or.inr ⟨by rfl, rfl⟩) hHeld ?_
          try simp only [Act.put, List.setIfInBounds_toArray, List.set_cons_zero, List.set_cons_succ]
          refine wpAnyH_take (i := 12) (oi := { dst := some 68, op := _, type := _, pos := _, after := _, guard := _ }) (v := undef) rfl (by kernel_rfl) (by kernel_rfl) (by kernel_rfl) (fun _ _ _ h => h) (Or.inr ⟨by rfl, rfl⟩) hHeld ?_
          try simp only [Act.put, List.setIfInBounds_toArray, List.set_cons_zero, List.set_cons_succ]
          refine wpAnyH_take (i := 13) (oi := { dst := some 69, op := _, type := _, pos := _, after := _, guard := _ }) (v := undef) rfl (by kernel_rfl) (by kernel_rfl) (by kernel_rfl) (fun _ _ _ h => h) (Or.inr ⟨by rfl, rfl⟩) hHeld ?_
          try simp only [Act.put, List.setIfInBounds_toArray, List.set_cons_zero, List.set_cons_succ]
          refine wpAnyH_take (i := 14) (oi := { dst := some 70, op := _, type := _, pos := _, after := _, guard := _ }) (v := undef) rfl (by kernel_rfl) (by kernel_rfl) (by kernel_rfl) (fun _ _ _ h => h) (Or.inr ⟨by rfl, rfl⟩) hHeld ?_
          try simp only [Act.put, List.setIfInBounds_toArray, List.set_cons_zero, List.set_cons_succ]
          refine wpAnyH_take (i := 15) (oi := { dst := some 71, op := _, type := _, pos := _, after := _, guard := _ }) (v := undef) rfl (by kernel_rfl) (by kernel_rfl) (by kernel_rfl) (fun _ _ _ h => h) (Or.inr ⟨by rfl, rfl⟩) hHeld ?_
          try simp only [Act.put, List.setIfInBounds_toArray, List.set_cons_zero, List.set_cons_succ]
          refine wpAnyH_take (i := 16) (oi := { dst := some 72, op := _, type := _, pos := _, after := _, guard := _ }) (v := undef) rfl (by kernel_rfl) (by kernel_rfl) (by kernel_rfl) (fun _ _ _ h => h) (Or.inr ⟨by rfl, rfl⟩) hHeld ?_
          try simp only [Act.put, List.setIfInBounds_toArray, List.set_cons_zero, List.set_cons_succ]
          refine wpAnyH_take (i := 17) (oi := { dst := some 73, op := _, type := _, pos := _, after := _, guard := _ }) (v := undef) rfl (by kernel_rfl) (by kernel_rfl) (by kernel_rfl) (fun _ _ _ h => h) (Or.inr ⟨by rfl, rfl⟩) hHeld ?_
          try simp only [Act.put, List.setIfInBounds_toArray, List.set_cons_zero, List.set_cons_succ]
          refine wpAnyH_take (i := 18) (oi := { dst := some 74, op := _, type := _, pos := _, after := _, guard := _ }) (v := undef) rfl (by kernel_rfl) (by kernel_rfl) (by kernel_rfl) (fun _ _ _ h => h) (Or.inr ⟨by rfl, rfl⟩) hHeld ?_
          try simp only [Act.put, List.setIfInBounds_toArray, List.set_cons_zero, List.set_cons_succ]
          refine wpAnyH_take (i := 19) (oi := { dst := some 75, op := _, type := _, pos := _, after := _, guard := _ }) (v := undef) rfl (by kernel_rfl) (by kernel_rfl) (by kernel_rfl) (fun _ _ _ h => h) (Or.inr ⟨by rfl, rfl⟩) hHeld ?_
          try simp only [Act.put, List.setIfInBounds_toArray, List.set_cons_zero, List.set_cons_succ]
          refine wpAnyH_take (i := 20) (oi := { dst := some 76, op := _, type := _, pos := _, after := _, guard := _ }) (v := undef) rfl (by kernel_rfl) (by kernel_rfl) (by kernel_rfl) (fun _ _ _ h => h) (Or.inr ⟨by rfl, rfl⟩) hHeld ?_
          try simp only [Act.put, List.setIfInBounds_toArray, List.set_cons_zero, List.set_cons_succ]
          refine wpAnyH_take (i := 21) (oi := { dst := some 77, op := _, type := _, pos := _, after := _, guard := _ }) (v := undef) rfl (by kernel_rfl) (by kernel_rfl) (by kernel_rfl) (fun _ _ _ h => h) (Or.inr ⟨by rfl, rfl⟩) hHeld ?_
          try simp only [Act.put, List.setIfInBounds_toArray, List.set_cons_zero, List.set_cons_succ]
          refine wpAnyH_take (i := 22) (oi := { dst := some 78, op := _, type := _, pos := _, after := _, guard := _ }) (v := undef) rfl (by kernel_rfl) (by kernel_rfl) (by kernel_rfl) (fun _ _ _ h => h) (Or.inr ⟨by rfl, rfl⟩) hHeld ?_
          try simp only [Act.put, List.setIfInBounds_toArray, List.set_cons_zero, List.set_cons_succ]
          refine wpAnyH_take (i := 23) (oi := { dst := some 79, op := _, type := _, pos := _, after := _, guard := _ }) (v := undef) rfl (by kernel_rfl) (by kernel_rfl) (by kernel_rfl) (fun _ _ _ h => h) (Or.inr ⟨by rfl, rfl⟩) hHeld ?_
          try simp only [Act.put, List.setIfInBounds_toArray, List.set_cons_zero, List.set_cons_succ]
          refine wpAnyH_take (i := 24) (oi := { dst := some 80, op := _, type := _, pos := _, after := _, guard := _ }) (v := undef) rfl (by kernel_rfl) (by kernel_rfl) (by kernel_rfl) (fun _ _ _ h => h) (Or.inr ⟨by rfl, rfl⟩) hHeld ?_
          try simp only [Act.put, List.setIfInBounds_toArray, List.set_cons_zero, List.set_cons_succ]
          refine wpAnyH_take (i := 25) (oi := { dst := some 81, op := _, type := _, pos := _, after := _, guard := _ }) (v := undef) rfl (by kernel_rfl) (by kernel_rfl) (by kernel_rfl) (fun _ _ _ h => h) (Or.inr ⟨by rfl, rfl⟩) hHeld ?_
          try simp only [Act.put, List.setIfInBounds_toArray, List.set_cons_zero, List.set_cons_succ]
          refine wpAnyH_take (i := 26) (oi := { dst := some 82, op := _, type := _, pos := _, after := _, guard := _ }) (v := undef) rfl (by kernel_rfl) (by kernel_rfl) (by kernel_rfl) (fun _ _ _ h => h) (Or.inr ⟨by rfl, rfl⟩) hHeld ?_
          try simp only [Act.put, List.setIfInBounds_toArray, List.set_cons_zero, List.set_cons_succ]
          refine wpAnyH_take (i := 27) (oi := { dst := some 83, op := _, type := _, pos := _, after := _, guard := _ }) (v := undef) rfl (by kernel_rfl) (by kernel_rfl) (by kernel_rfl) (fun _ _ _ h => h) (Or.inr ⟨by rfl, rfl⟩) hHeld ?_
          try simp only [Act.put, List.setIfInBounds_toArray, List.set_cons_zero, List.set_cons_succ]
          refine wpAnyH_take (i := 28) (oi := { dst := some 84, op := _, type := _, pos := _, after := _, guard := _ }) (v := .bool true) rfl (by kernel_rfl) (by kernel_rfl) (by kernel_rfl) (fun _ _ _ h => h) (Or.inl ⟨by rfl, ?_⟩) hHeld ?_
          · intro w hSw
            obtain ⟨⟨q0, q1⟩, q2⟩ := hSw
            go_simp <;> (first | done | (intro _; omega))
          try simp only [Act.put, List.setIfInBounds_toArray, List.set_cons_zero, List.set_cons_succ]
          refine wpAnyH_take (i := 29) (oi := { dst := some 2, op := _, type := _, pos := _, after := _, guard := _ }) (v := .bool true) rfl (by kernel_rfl) (by kernel_rfl) (by kernel_rfl) (fun _ _ _ h => h) (Or.inl ⟨by rfl, ?_⟩) hHeld ?_
          · intro w hSw
            obtain ⟨⟨q0, q1⟩, q2⟩ := hSw
            go_simp <;> (first | done | (intro _; omega))
          try simp only [Act.put, List.setIfInBounds_toArray, List.set_cons_zero, List.set_cons_succ]
          refine wpAnyH_done (by kernel_rfl) ?_ _
          go_wp2_with fail
          go_ret
          exact ⟨rfl, B7.out.drew⟩
        · rw [decide_eq_false h47] at hs1
          clear h47
          refine wp_region_held_drew (S := fun w' => (w'.cell? ⟨b8, 0, none⟩ = some (.int .i64 PC) ∧ w'.cell? ⟨b8, 1, none⟩ = some (.int .i64 PV)) ∧ w'.cell? ⟨b2, 1, none⟩ = some (.slice rv NS.length rc)) (by kernel_rfl) (KM.out _ (Below.refl _ _).drew) (fun hHeld => ?_)
          change wpAnyH _ _ _ _ _ _ (Array.replicate _ false) _ _
          refine wpAnyH_take (i := 0) (oi := { dst := some 56, op := _, type := _, pos := _, after := _, guard := _ }) (v := .string (str p)) rfl (by kernel_rfl) (by kernel_rfl) (by kernel_rfl) (fun _ _ _ h => h) (Or.inl ⟨by rfl, ?_⟩) hHeld ?_
          · intro w hSw
            obtain ⟨⟨q0, q1⟩, q2⟩ := hSw
            go_simp <;> (first | done | (intro _; omega))
          try simp only [Act.put, List.setIfInBounds_toArray, List.set_cons_zero, List.set_cons_succ]
          refine wpAnyH_take (i := 1) (oi := { dst := some 57, op := _, type := _, pos := _, after := _, guard := _ }) (v := .bool false) rfl (by kernel_rfl) (by kernel_rfl) (by kernel_rfl) (fun _ _ _ h => h) (Or.inl ⟨by rfl, ?_⟩) hHeld ?_
          · intro w hSw
            obtain ⟨⟨q0, q1⟩, q2⟩ := hSw
            go_simp <;> (first | done | (intro _; omega))
          try simp only [Act.put, List.setIfInBounds_toArray, List.set_cons_zero, List.set_cons_succ]
          refine wpAnyH_take (i := 2) (oi := { dst := some 58, op := _, type := _, pos := _, after := _, guard := _ }) (v := .bool false) rfl (by kernel_rfl) (by kernel_rfl) (by kernel_rfl) (fun _ _ _ h => h) (Or.inl ⟨by rfl, ?_⟩) hHeld ?_
          · intro w hSw
            obtain ⟨⟨q0, q1⟩, q2⟩ := hSw
            go_simp <;> (first | done | (intro _; omega))
          try simp only [Act.put, List.setIfInBounds_toArray, List.set_cons_zero, List.set_cons_succ]
          refine wpAnyH_take (i := 3) (oi := { dst := some 59, op := _, type := _, pos := _, after := _, guard := _ }) (v := .pointer (some ⟨b8, 0, none⟩)) rfl (by kernel_rfl) (by kernel_rfl) (by kernel_rfl) (fun _ _ _ h => h) (Or.inl ⟨by rfl, ?_⟩) hHeld ?_
          · intro w hSw
            obtain ⟨⟨q0, q1⟩, q2⟩ := hSw
            go_simp <;> (first | done | (intro _; omega))
          try simp only [Act.put, List.setIfInBounds_toArray, List.set_cons_zero, List.set_cons_succ]
          refine wpAnyH_take (i := 4) (oi := { dst := some 60, op := _, type := _, pos := _, after := _, guard := _ }) (v := .int .i64 PC) rfl (by kernel_rfl) (by kernel_rfl) (by kernel_rfl) (fun _ _ _ h => h) (Or.inl ⟨by rfl, ?_⟩) hHeld ?_
          · intro w hSw
            obtain ⟨⟨q0, q1⟩, q2⟩ := hSw
            go_simp <;> (first | done | (intro _; omega))
          try simp only [Act.put, List.setIfInBounds_toArray, List.set_cons_zero, List.set_cons_succ]
          refine wpAnyH_take (i := 5) (oi := { dst := some 61, op := _, type := _, pos := _, after := _, guard := _ }) (v := .slice av ls.length cv) rfl (by kernel_rfl) (by kernel_rfl) (by kernel_rfl) (fun _ _ _ h => h) (Or.inl ⟨by rfl, ?_⟩) hHeld ?_
          · intro w hSw
            obtain ⟨⟨q0, q1⟩, q2⟩ := hSw
            go_simp <;> (first | done | (intro _; omega))
          try simp only [Act.put, List.setIfInBounds_toArray, List.set_cons_zero, List.set_cons_succ]
          refine wpAnyH_take (i := 6) (oi := { dst := some 62, op := _, type := _, pos := _, after := _, guard := _ }) (v := .string (str p)) rfl (by kernel_rfl) (by kernel_rfl) (by kernel_rfl) (fun _ _ _ h => h) (Or.inl ⟨by rfl, ?_⟩) hHeld ?_
          · intro w hSw
            obtain ⟨⟨q0, q1⟩, q2⟩ := hSw
            go_simp <;> (first | done | (intro _; omega))
          try simp only [Act.put, List.setIfInBounds_toArray, List.set_cons_zero, List.set_cons_succ]
          refine wpAnyH_ready (rs := [7]) (by kernel_rfl) (by simp) ?_
          refine AllReadyH.cons rfl (fun K hK => ?_) AllReadyH.nil
          go_simp
          refine (HPS.out _ (Below.refl _ _).drew).mono ?_
          rintro r w9 ⟨rfl, hb9⟩
          have BB1 := hide ((Below.refl W8.heap.size W8).drew.trans hb9)
          clear hb9
          go_wp2_with fail
          refine hK.out _ _ (KM.out _ BB1.out) (fun hHeld => ?_)
          clear hK K
          try simp only [Act.put, List.setIfInBounds_toArray, List.set_cons_zero, List.set_cons_succ]
          refine wpAnyH_take (i := 8) (oi := { dst := some 64, op := _, type := _, pos := _, after := _, guard := _ }) (v := .int .i64 PC) rfl (by kernel_rfl) (by kernel_rfl) (by kernel_rfl) (fun _ _ _ h => h) (Or.inl ⟨by rfl, ?_⟩) hHeld ?_
          · intro w hSw
            obtain ⟨⟨q0, q1⟩, q2⟩ := hSw
            go_simp <;> (first | done | (intro _; omega))
          try simp only [Act.put, List.setIfInBounds_toArray, List.set_cons_zero, List.set_cons_succ]
          refine wpAnyH_take (i := 9) (oi := { dst := some 65, op := _, type := _, pos := _, after := _, guard := _ }) (v := .bool true) rfl (by kernel_rfl) (by kernel_rfl) (by kernel_rfl) (fun _ _ _ h => h) (Or.inl ⟨by rfl, ?_⟩) hHeld ?_
          · intro w hSw
            obtain ⟨⟨q0, q1⟩, q2⟩ := hSw
            go_simp <;> (first | done | (intro _; omega))
          try simp only [Act.put, List.setIfInBounds_toArray, List.set_cons_zero, List.set_cons_succ]
          refine wpAnyH_take (i := 10) (oi := { dst := some 66, op := _, type := _, pos := _, after := _, guard := _ }) (v := .bool true) rfl (by kernel_rfl) (by kernel_rfl) (by kernel_rfl) (fun _ _ _ h => h) (Or.inl ⟨by rfl, ?_⟩) hHeld ?_
          · intro w hSw
            obtain ⟨⟨q0, q1⟩, q2⟩ := hSw
            go_simp <;> (first | done | (intro _; omega))
          try simp only [Act.put, List.setIfInBounds_toArray, List.set_cons_zero, List.set_cons_succ]
          refine wpAnyH_take (i := 11) (oi := { dst := some 67, op := _, type := _, pos := _, after := _, guard := _ }) (v := .pointer (some ⟨b8, 1, none⟩)) rfl (by kernel_rfl) (by kernel_rfl) (by kernel_rfl) (fun _ _ _ h => h) (Or.inl ⟨by rfl, ?_⟩) hHeld ?_
          · intro w hSw
            obtain ⟨⟨q0, q1⟩, q2⟩ := hSw
            go_simp <;> (first | done | (intro _; omega))
          try simp only [Act.put, List.setIfInBounds_toArray, List.set_cons_zero, List.set_cons_succ]
          refine wpAnyH_take (i := 12) (oi := { dst := some 68, op := _, type := _, pos := _, after := _, guard := _ }) (v := .int .i64 PV) rfl (by kernel_rfl) (by kernel_rfl) (by kernel_rfl) (fun _ _ _ h => h) (Or.inl ⟨by rfl, ?_⟩) hHeld ?_
          · intro w hSw
            obtain ⟨⟨q0, q1⟩, q2⟩ := hSw
            go_simp <;> (first | done | (intro _; omega))
          try simp only [Act.put, List.setIfInBounds_toArray, List.set_cons_zero, List.set_cons_succ]
          refine wpAnyH_take (i := 13) (oi := { dst := some 69, op := _, type := _, pos := _, after := _, guard := _ }) (v := .slice av ls.length cv) rfl (by kernel_rfl) (by kernel_rfl) (by kernel_rfl) (fun _ _ _ h => h) (Or.inl ⟨by rfl, ?_⟩) hHeld ?_
          · intro w hSw
            obtain ⟨⟨q0, q1⟩, q2⟩ := hSw
            go_simp <;> (first | done | (intro _; omega))
          try simp only [Act.put, List.setIfInBounds_toArray, List.set_cons_zero, List.set_cons_succ]
          refine wpAnyH_take (i := 14) (oi := { dst := some 70, op := _, type := _, pos := _, after := _, guard := _ }) (v := .string (str p)) rfl (by kernel_rfl) (by kernel_rfl) (by kernel_rfl) (fun _ _ _ h => h) (Or.inl ⟨by rfl, ?_⟩) hHeld ?_
          · intro w hSw
            obtain ⟨⟨q0, q1⟩, q2⟩ := hSw
            go_simp <;> (first | done | (intro _; omega))
          try simp only [Act.put, List.setIfInBounds_toArray, List.set_cons_zero, List.set_cons_succ]
          refine wpAnyH_ready (rs := [15]) (by kernel_rfl) (by simp) ?_
          refine AllReadyH.cons rfl (fun K hK => ?_) AllReadyH.nil
          go_simp
          refine (HPS.out _ BB1.out).mono ?_
          rintro r w10 ⟨rfl, hb10⟩
          have BB2 := hide (below_next BB1.out hb10)
          clear hb10
          go_wp2_with fail
          refine hK.out _ _ (KM.out _ BB2.out) (fun hHeld => ?_)
          clear hK K
          try simp only [Act.put, List.setIfInBounds_toArray, List.set_cons_zero, List.set_cons_succ]
          refine wpAnyH_take (i := 16) (oi := { dst := some 72, op := _, type := _, pos := _, after := _, guard := _ }) (v := .int .i64 PV) rfl (by kernel_rfl) (by kernel_rfl) (by kernel_rfl) (fun _ _ _ h => h) (Or.inl ⟨by rfl, ?_⟩) hHeld ?_
          · intro w hSw
            obtain ⟨⟨q0, q1⟩, q2⟩ := hSw
            go_simp <;> (first | done | (intro _; omega))
          try simp only [Act.put, List.setIfInBounds_toArray, List.set_cons_zero, List.set_cons_succ]
          refine wpAnyH_take (i := 17) (oi := { dst := some 73, op := _, type := _, pos := _, after := _, guard := _ }) (v := .bool true) rfl (by kernel_rfl) (by kernel_rfl) (by kernel_rfl) (fun _ _ _ h => h) (Or.inl ⟨by rfl, ?_⟩) hHeld ?_
          · intro w hSw
            obtain ⟨⟨q0, q1⟩, q2⟩ := hSw
            go_simp <;> (first | done | (intro _; omega))
          try simp only [Act.put, List.setIfInBounds_toArray, List.set_cons_zero, List.set_cons_succ]
          refine wpAnyH_take (i := 18) (oi := { dst := some 74, op := _, type := _, pos := _, after := _, guard := _ }) (v := .bool true) rfl (by kernel_rfl) (by kernel_rfl) (by kernel_rfl) (fun _ _ _ h => h) (Or.inl ⟨by rfl, ?_⟩) hHeld ?_
          · intro w hSw
            obtain ⟨⟨q0, q1⟩, q2⟩ := hSw
            go_simp <;> (first | done | (intro _; omega))
          try simp only [Act.put, List.setIfInBounds_toArray, List.set_cons_zero, List.set_cons_succ]
          refine wpAnyH_take (i := 19) (oi := { dst := some 75, op := _, type := _, pos := _, after := _, guard := _ }) (v := .bool true) rfl (by kernel_rfl) (by kernel_rfl) (by kernel_rfl) (fun _ _ _ h => h) (Or.inl ⟨by rfl, ?_⟩) hHeld ?_
          · intro w hSw
            obtain ⟨⟨q0, q1⟩, q2⟩ := hSw
            go_simp <;> (first | done | (intro _; omega))
          try simp only [Act.put, List.setIfInBounds_toArray, List.set_cons_zero, List.set_cons_succ]
          refine wpAnyH_take (i := 20) (oi := { dst := some 76, op := _, type := _, pos := _, after := _, guard := _ }) (v := .pointer (some ⟨b2, 1, none⟩)) rfl (by kernel_rfl) (by kernel_rfl) (by kernel_rfl) (fun _ _ _ h => h) (Or.inl ⟨by rfl, ?_⟩) hHeld ?_
          · intro w hSw
            obtain ⟨⟨q0, q1⟩, q2⟩ := hSw
            go_simp <;> (first | done | (intro _; omega))
          try simp only [Act.put, List.setIfInBounds_toArray, List.set_cons_zero, List.set_cons_succ]
          refine wpAnyH_take (i := 21) (oi := { dst := some 77, op := _, type := _, pos := _, after := _, guard := _ }) (v := .slice rv NS.length rc) rfl (by kernel_rfl) (by kernel_rfl) (by kernel_rfl) (fun _ _ _ h => h) (Or.inl ⟨by rfl, ?_⟩) hHeld ?_
          · intro w hSw
            obtain ⟨⟨q0, q1⟩, q2⟩ := hSw
            go_simp <;> (first | done | (intro _; omega))
          try simp only [Act.put, List.setIfInBounds_toArray, List.set_cons_zero, List.set_cons_succ]
          refine wpAnyH_take (i := 22) (oi := { dst := some 78, op := _, type := _, pos := _, after := _, guard := _ }) (v := .slice av ls.length cv) rfl (by kernel_rfl) (by kernel_rfl) (by kernel_rfl) (fun _ _ _ h => h) (Or.inl ⟨by rfl, ?_⟩) hHeld ?_
          · intro w hSw
            obtain ⟨⟨q0, q1⟩, q2⟩ := hSw
            go_simp <;> (first | done | (intro _; omega))
          try simp only [Act.put, List.setIfInBounds_toArray, List.set_cons_zero, List.set_cons_succ]
          refine wpAnyH_take (i := 23) (oi := { dst := some 79, op := _, type := _, pos := _, after := _, guard := _ }) (v := .string (str p)) rfl (by kernel_rfl) (by kernel_rfl) (by kernel_rfl) (fun _ _ _ h => h) (Or.inl ⟨by rfl, ?_⟩) hHeld ?_
          · intro w hSw
            obtain ⟨⟨q0, q1⟩, q2⟩ := hSw
            go_simp <;> (first | done | (intro _; omega))
          try simp only [Act.put, List.setIfInBounds_toArray, List.set_cons_zero, List.set_cons_succ]
          refine wpAnyH_ready (rs := [24]) (by kernel_rfl) (by simp) ?_
          refine AllReadyH.cons rfl (fun K hK => ?_) AllReadyH.nil
          go_simp
          refine (HSP8.out _ BB2.out).mono ?_
          rintro r w11 ⟨xv, xc, rfl, hO11, hb11⟩
          have BB3 := hide (below_next BB2.out hb11)
          have RX := hide (OwnS.reads hO11)
          clear hb11 hO11
          go_wp2_with fail
          refine hK.out _ _ (KM.out _ BB3.out) (fun hHeld => ?_)
          clear hK K
          try simp only [Act.put, List.setIfInBounds_toArray, List.set_cons_zero, List.set_cons_succ]
          refine wpAnyH_take (i := 25) (oi := { dst := some 81, op := _, type := _, pos := _, after := _, guard := _ }) (v := .slice xv NS.length xc) rfl (by kernel_rfl) (by kernel_rfl) (by kernel_rfl) (fun _ _ _ h => h) (Or.inl ⟨by rfl, ?_⟩) hHeld ?_
          · intro w hSw
            obtain ⟨⟨q0, q1⟩, q2⟩ := hSw
            go_simp <;> (first | done | (intro _; omega))
          try simp only [Act.put, List.setIfInBounds_toArray, List.set_cons_zero, List.set_cons_succ]
          refine wpAnyH_ready (rs := [26]) (by kernel_rfl) (by simp) ?_
          refine AllReadyH.cons rfl (fun K hK => ?_) AllReadyH.nil
          go_simp
          refine (lwNames_e rv xv rc xc NS _ (RN8.out.below BB3.out) RX.out (by omega)).mono ?_
          rintro r w12 ⟨rfl, hb12⟩
          have BB5 := hide (below_next BB3.out hb12)
          clear hb12
          go_wp2_with fail
          refine hK.out _ _ (KM.out _ BB5.out) (fun hHeld => ?_)
          clear hK K
          try simp only [Act.put, List.setIfInBounds_toArray, List.set_cons_zero, List.set_cons_succ]
          refine wpAnyH_take (i := 27) (oi := { dst := some 83, op := _, type := _, pos := _, after := _, guard := _ }) (v := .bool true) rfl (by kernel_rfl) (by kernel_rfl) (by kernel_rfl) (fun _ _ _ h => h) (Or.inl ⟨by rfl, ?_⟩) hHeld ?_
          · intro w hSw
            obtain ⟨⟨q0, q1⟩, q2⟩ := hSw
            go_simp <;> (first | done | (intro _; omega))
          try simp only [Act.put, List.setIfInBounds_toArray, List.set_cons_zero, List.set_cons_succ]
          refine wpAnyH_take (i := 28) (oi := { dst := some 84, op := _, type := _, pos := _, after := _, guard := _ }) (v := .bool true) rfl (by kernel_rfl) (by kernel_rfl) (by kernel_rfl) (fun _ _ _ h => h) (Or.inl ⟨by rfl, ?_⟩) hHeld ?_
          · intro w hSw
            obtain ⟨⟨q0, q1⟩, q2⟩ := hSw
            go_simp <;> (first | done | (intro _; omega))
          try simp only [Act.put, List.setIfInBounds_toArray, List.set_cons_zero, List.set_cons_succ]
          refine wpAnyH_take (i := 29) (oi := { dst := some 2, op := _, type := _, pos := _, after := _, guard := _ }) (v := .bool true) rfl (by kernel_rfl) (by kernel_rfl) (by kernel_rfl) (fun _ _ _ h => h) (Or.inl ⟨by rfl, ?_⟩) hHeld ?_
          · intro w hSw
            obtain ⟨⟨q0, q1⟩, q2⟩ := hSw
            go_simp <;> (first | done | (intro _; omega))
          try simp only [Act.put, List.setIfInBounds_toArray, List.set_cons_zero, List.set_cons_succ]
          refine wpAnyH_done (by kernel_rfl) ?_ _
          go_wp2_with fail
          go_ret
          exact ⟨rfl, below_next B7.out BB5.out⟩
    · generalize malL ls = DL at *
      generalize malC ls = F at *
      have hz2 : (F != 0) = true := by simp; exact hm
      have hff : (lovC ls p == lovC ls p) = true := by simp
      generalize lovC ls p = C at *
      generalize lovL ls p = NS at *
      clear hm
      obtain ⟨⟨s0, s1⟩, s2, s3⟩ := X23.out
      obtain ⟨⟨t0, t1, t2⟩, t3, t4, t5⟩ := X3.out
      go_wp2_with fail
      clear s0 s1 s2 s3 t0 t1 t2 t3 t4 t5
      generalize w3.alloc (.cells #[.int .i64 F, .int .i64 0, .slice mv DL.length mc] 32) = W3 at *
      generalize w3.heap.size = b3 at *
      have KC : Hid (∀ w' : World, Below W3.heap.size W3 w' → w'.cell? ⟨b2, 0, none⟩ = some (.int .i64 C)) := hide (fun w' hb' => (X23.out.below hb').1.1)
      have q0 := KC.out W3 (Below.refl _ _)
      have hfd : ∀ (w : World) (v : Value), (Instr.field 28 (.agg #[.int .i64 C, v]) 0).run Tryz.prog w = .ok (.int .i64 C) w := fun _ _ => by kernel_rfl
      go_region_held3 (fun w' => w'.cell? ⟨b2, 0, none⟩ = some (.int .i64 C)) (first | exact KC.out _ BB5.out | go_keep)
        ((go_at_call 17; refine (HSP.out _ (Below.refl _ _).drew).mono ?_; rintro r w8 ⟨xv5, xc5, rfl, -, hb5⟩; have BB5 := hide ((Below.refl W3.heap.size W3).drew.trans hb5); clear hb5))
      go_wp2_with fail
      go_ret
      exact ⟨rfl, below_next B3.out BB5.out⟩

set_option maxRecDepth 100000 in
theorem lifted (os : Os) (started : os.Started) (H : Type) (enc : TypeId × Value → H) :
    ReturnsInHanded {} Tryz.checked os 4 .any (Rows.fnSeesSpec.pre6 enc Tryz.prog Tryz.f4 Rows.fnSeesRow.domain false) (Rows.fnSeesSpec.post enc Tryz.prog Tryz.f4 false true false false) := by
  refine returnsInHanded_of_change (C := Tryz.checked) own started (by kernel_rfl) Tryz.func4
    (ChangeSpec.witness6 (enc := enc) (C := Tryz.checked) false ⟨#[], #[.slice none 0 0], []⟩ 8 (by kernel_rfl) (by kernel_rfl) (by kernel_rfl) (by kernel_rfl)) ?_
  intro W base args ds gs before hval0 hW hcnd _
  have hval : ∀ (j : Nat) t v, Tryz.f4.params[j]? = some t → args[j]? = some v → Value.okWide Tryz.prog W .any base t v := hval0
  have hW' := hW
  obtain ⟨p, q, hA0, hV, rfl, hfz, hnd⟩ := hW
  have hA : DataW.TrodAll enc Tryz.prog W 0 (fun _ => true) true Tryz.f4.params.toList args.toList ds p := hA0
  rw [Tryz.params4] at hA hval
  obtain ⟨v0, vs0, d0, ds0, p0, q0, hargs, rfl, rfl, h0, r0⟩ := trodAll_cons hA
  obtain ⟨rfl, rfl, rfl⟩ := trodAll_nil r0
  obtain rfl : args = #[v0] := by cases args; simp_all
  obtain ⟨rfl, rfl⟩ := trodVars_none hV
  obtain ⟨a0, len0, cap0, rfl⟩ := okWide_slice Tryz.underlying22 (hval 0 22 v0 rfl rfl)
  have k0 := h0
  have lt0 : ∀ x ∈ p0, x.block < W.heap.size := by obtain ⟨m, hm⟩ := k0; exact DataW.trod_lt m _ _ _ hm
  obtain ⟨zs, hlen, hread, hu, hmax⟩ : ∃ zs : List Int, zs.length = len0 ∧ Reads .u8 W a0 zs ∧ U8 zs ∧ zs.length ≤ maxLen := by
    obtain ⟨fuel, hf⟩ := h0
    rcases open_ints Tryz.underlying22 Tryz.underlying5 (by kernel_rfl) hf with ⟨hcs, _⟩ | ⟨x, l, c, zs, hcs, _, hl, hm, hz, _, hcell, hwz⟩
    · simp [Value.cells] at hcs
      obtain ⟨rfl, rfl, rfl⟩ := hcs
      exact ⟨[], rfl, fun h => absurd rfl h, fun z hz => by simp at hz, Nat.zero_le _⟩
    · simp [Value.cells] at hcs
      obtain ⟨rfl, rfl, rfl⟩ := hcs
      exact reads_of_row (by simpa using hz) hl hm hcell hwz
  subst hlen
  clear hA0 hval0
  refine (walk a0 cap0 zs W hread hu hmax).mono fun e W' ⟨he, bel⟩ => ?_
  subst he
  exact ⟨_, rfl, _, _, _, [], _, [], hW', trodAll_mk1 (shut_bool Tryz.underlying4 _), (trodAll_cons_mk (Below.trod laidOut (by kernel_rfl) (of_decide_eq_true (by kernel_rfl)) k0 bel lt0) trodAll_mk0), rfl, bel.frame _, fun h => by cases h⟩

theorem over : Rows.fnSeesRow.holds Tryz.pinned (OpenSpec.ofChange Rows.fnSeesSpec) :=
  OpenClaim.holds_of_wide 4 Tryz.f4 rfl rfl rfl rfl rfl rfl rfl ⟨rfl, rfl, rfl, rfl, rfl⟩ rfl rfl rfl rfl rfl (by kernel_rfl) Tryz.func4 (by kernel_rfl)
    (of_decide_eq_true (by kernel_rfl)) (by unfold Func.isWrapper; first | (rw [if_pos (by decide +kernel)]; kernel_rfl) | (rw [if_neg (by decide +kernel)]; exact ⟨rfl, rfl⟩))
    (fun os started H enc _ => lifted os started H enc)

end Go.Proofs.YtjkmbicedbdifaaGreat.fnSees
namespace Go.Proofs.YtjkmbicedbdifaaGreat
theorem fnSees_holds : Rows.FnSeesSaid := fnSees.over
#print axioms fnSees_holds
end Go.Proofs.YtjkmbicedbdifaaGreat
