/-
  At every byte slice the law FnOvers returns true: what is seen through layers is what there is in the tree that they make. No condition.
-/
import Derived.Test.YtjkmbicedbdifaaGreatOvrG
import Derived.Test.YtjkmbicedbdifaaGreatOvrF
import Derived.Test.YtjkmbicedbdifaaGreatOvrB
import Derived.Test.YtjkmbicedbdifaaGreatSeeI
import Derived.Test.YtjkmbicedbdifaaGreatIteH
import Derived.ProofKit
import Derived.Deep.CutRange
import Derived.OpenShut
import Derived.ShutString
import Derived.ChangeOld
import Derived.Deep.DrawnRows
import Derived.Deep.RegionHeld3
namespace Go.Proofs.YtjkmbicedbdifaaGreat.fnOvers
open Go.ChangeShapes Go.WideShapes Go.ChangeAt Go.RowKit Go.Maps
set_option linter.unusedVariables false
attribute [local go_sem ↓] Go.wp_at_zero Go.wp_at_succ

theorem own : ownKnob Tryz.prog.godebug = none := by kernel_rfl
theorem laidOut : laidOutB Tryz.prog = true := by kernel_rfl

theorem lwBig_no (a : Option Addr) (cap : Nat) (n : Nat) (w : World) (h : n ≤ 1048576) :
    Calls Tryz.prog 5 #[.slice a n cap] w fun e w' => e = .returned (.bool false) ∧ w' = w := by
  have hb : ¬ (1048576 : Int) < (n : Int) := by omega
  go_enter Tryz.func5, Tryz.ntmps5
  go_wp2
  go_ret
  exact ⟨ret_bool (by simp <;> omega), rfl⟩
theorem lwBig_yes (a : Option Addr) (cap : Nat) (n : Nat) (w : World) (h : 1048576 < n) (h2 : n ≤ maxLen) :
    Calls Tryz.prog 5 #[.slice a n cap] w fun e w' => e = .returned (.bool true) ∧ w' = w := by
  have hb : (1048576 : Int) < (n : Int) := by omega
  unfold maxLen at h2
  go_enter Tryz.func5, Tryz.ntmps5
  go_wp2
  go_ret
  exact ⟨ret_bool (by simp <;> omega), rfl⟩
set_option maxRecDepth 100000 in
set_option maxHeartbeats 25600000 in
theorem walk (a0 : Option Addr) (cap0 : Nat) (zs : List Int) (w : World) (h : Reads .u8 w a0 zs) (hu : U8 zs) (hmax : zs.length ≤ maxLen) :
    Calls Tryz.prog 3 #[.slice a0 zs.length cap0] w fun e w' => e = .returned (.bool true) ∧ Below w.heap.size w w' := by
  have HR := hide h
  have HU := hide hu
  clear h hu
  by_cases hbig : 1048576 < zs.length
  · go_enter Tryz.func3, Tryz.ntmps3
    go_wp2_with fail
    refine (lwBig_yes _ _ _ _ hbig hmax).mono ?_
    rintro e w ⟨rfl, rfl⟩
    go_wp2_with fail
    go_ret
    exact ⟨rfl, Below.refl _ _⟩
  · go_enter Tryz.func3, Tryz.ntmps3
    go_wp2_with fail
    refine (lwBig_no _ _ _ _ (by omega)).mono ?_
    rintro e w ⟨rfl, rfl⟩
    go_wp2_with fail
    refine (drawPathsOver_any a0 cap0 zs _ HR.out HU.out (by omega)).mono ?_
    rintro e w1 ⟨ls, av, cv, rfl, hrl, hl5, hsl, hgl, hb1⟩
    have RL := hide hrl
    have HS := hide hsl
    have HG := hide (fun es he => (hgl es he).2)
    have B1 := hide hb1
    have HSA := hide hgl
    clear hrl hsl hgl hb1 HR HU hbig hmax
    go_wp2_with fail
    refine (implPathsOver_any av cv ls.length ls w1 RL.out rfl (by omega) HS.out).mono ?_
    rintro r w2 ⟨pv, pc, rfl, hG2, hb2⟩
    have A2 := hide (below_alloc w2 (.cells #[.int .i64 (layersP ls), .slice pv (pthL ls).length pc] 28))
    have X2 := hide (Box.new w2 (.int .i64 (layersP ls)) (.slice pv (pthL ls).length pc) 28)
    have BW2 := hide (below_next hb2 A2.out)
    have B2 := hide (below_next B1.out BW2.out)
    have RN2 := hide ((OwnS.reads hG2).below A2.out)
    have RL2 := hide (RL.out.below BW2.out)
    clear hG2 hb2 A2 B1 RL BW2
    obtain ⟨⟨t0, t1⟩, t2, t3⟩ := X2.out
    go_wp2_with fail
    clear t0 t1 t2 t3
    generalize w2.alloc (.cells #[.int .i64 (layersP ls), .slice pv (pthL ls).length pc] 28) = W2 at *
    generalize w2.heap.size = b2 at *
    refine (implMergeAll_any av cv ls.length ls W2 RL2.out rfl (by omega) HS.out).mono ?_
    rintro r w3 ⟨mv, mc, rfl, hG3, hb3⟩
    have A3 := hide (below_alloc w3 (.cells #[.int .i64 (malC ls), .int .i64 0, .slice mv (malL ls).length mc] 32))
    have X3 := hide (Box3.new w3 (.int .i64 (malC ls)) (.int .i64 0) (.slice mv (malL ls).length mc) 32)
    have BW3 := hide (below_next hb3 A3.out)
    have B3 := hide (below_next B2.out BW3.out)
    have RM3 := hide (hG3.rd.below A3.out)
    have RL3 := hide (RL2.out.below BW3.out)
    have RN3 := hide (RN2.out.below BW3.out)
    have X23 := hide (X2.out.below BW3.out)
    have HCP := hide (show (malL ls).length ≤ mc from by obtain ⟨rs, _, h1, _⟩ := hG3; exact ownsRow_cap h1)
    clear hG3 hb3 A3 B2 RL2 RN2 X2 BW3
    have HSP : Hid (∀ u : World, Below (w3.alloc (.cells #[.int .i64 (malC ls), .int .i64 0, .slice mv (malL ls).length mc] 32)).heap.size (w3.alloc (.cells #[.int .i64 (malC ls), .int .i64 0, .slice mv (malL ls).length mc] 32)) u → Calls Tryz.prog 11 #[.slice av ls.length cv] u (ResT (malC ls) 0 (malL ls) u)) := hide (fun u hb' => specMergeAll_any av cv ls.length ls u (RL3.out.below hb') rfl (by omega) HS.out HG.out)
    by_cases hz : layersP ls = 0
    · by_cases hm : malC ls = 0
      · obtain ⟨hot, hop, hol, hos, hor⟩ := overs_of hm
        have hpl : (pthL ls).length = (allE ls).length := by rw [hop, List.length_map]
        rw [hpl] at X23
        rw [hop] at RN3
        rw [hot] at X3 B3 RM3 RL3 RN3 X23 HSP HCP ⊢
        rw [hm] at X3 B3 RM3 RL3 RN3 X23 HSP ⊢
        rw [hz] at X23 ⊢
        rw [hpl] at ⊢
        have HOL := hide hol
        have HOS := hide hos
        have h40 := hor.len
        have hcp := HCP.out
        clear HCP
        have HMS := hide (rightT_fit.1 hor).1.fit.small
        generalize allE ls = T at *
        clear hot hop hol hos hor hpl hz hm
        obtain ⟨⟨s0, s1⟩, s2, s3⟩ := X23.out
        obtain ⟨⟨t0, t1, t2⟩, t3, t4, t5⟩ := X3.out
        go_wp2_with fail
        clear s0 s1 s2 s3 t0 t1 t2 t3 t4 t5
        generalize w3.alloc (.cells #[.int .i64 0, .int .i64 0, .slice mv T.length mc] 32) = W3 at *
        generalize w3.heap.size = b3 at *
        have KB : Hid (∀ w' : World, Below W3.heap.size W3 w' → w'.cell? ⟨b3, 2, none⟩ = some (.slice mv T.length mc) ∧ w'.cell? ⟨b2, 1, none⟩ = some (.slice pv T.length pc)) := hide (fun w' hb' => ⟨(X3.out.below hb').1.2.2, (X23.out.below hb').1.2⟩)
        clear X3 X23
        go_loopw [6] (fun i wr => ∃ k : Nat, k ≤ T.length ∧ i = .int .i64 k ∧ Hid (Below W3.heap.size W3 wr)) (fun i _ => T.length - (intOf i).toNat)
        case atStart => exact ⟨0, Nat.zero_le _, rfl, hide (Below.refl _ _)⟩
        case round =>
          obtain ⟨k, hk, rfl, HW⟩ := hrel
          have HWo := HW
          by_cases hlt : k < T.length
          · obtain ⟨bl, ol, e, x, cc, hbv, hbl, he, y0, y1, y2, y3, hr⟩ := RM3.out.at hlt
            subst hbv
            obtain ⟨bn, on, p, hpv, hbn, hp, z0⟩ := RN3.out.at (k := k) (by simpa using hlt)
            subst hpv
            obtain rfl : e.path = p := by rw [List.getElem?_map, he] at hp; simpa using hp
            have HX := hide (List.mem_of_getElem? he)
            have hse := HMS.out e HX.out
            have KL : Hid (∀ w' : World, Below W3.heap.size W3 w' → (w'.cell? ⟨b3, 2, none⟩ = some (.slice (some ⟨bl, ol, none⟩) T.length mc) ∧ w'.cell? ⟨b2, 1, none⟩ = some (.slice (some ⟨bn, on, none⟩) T.length pc)) ∧ w'.cell? ⟨bl, ol + k * 4, none⟩ = some (.string (str e.path)) ∧ w'.cell? ⟨bn, on + k, none⟩ = some (.string (str e.path))) := hide (fun w' hb' => ⟨KB.out w' hb', (hb'.cell (p := ⟨bl, ol + k * 4, none⟩) hbl).trans y0, (hb'.cell (p := ⟨bn, on + k, none⟩) hbn).trans z0⟩)
            have RS := hide (RM3.out.one he)
            have HLK : Hid (∀ u : World, Below W3.heap.size W3 u → Calls Tryz.prog 12 #[.slice av ls.length cv, .string (str e.path)] u fun r w' => ∃ lv lc, r = .returned (.agg #[.int .i64 0, .slice lv 1 lc]) ∧ RdE w' lv [e] ∧ Below u.heap.size u w') := hide (fun u hu => by
              have h1 := implLookOver_any av cv ls.length ls e.path u (RL3.out.below hu) rfl (by omega) HS.out hse.1
              rw [(HOL.out e HX.out).1, (HOL.out e HX.out).2] at h1
              exact h1.mono (fun r w' ⟨lv, lc, h2, h3, h4⟩ => ⟨lv, lc, h2, h3.rd, h4⟩))
            clear he hp hr y0 y1 y2 y3 z0
            obtain ⟨⟨q0, q1⟩, q2, q3⟩ := KL.out _ HW.out
            have hk0 : (0 : Int) ≤ (k : Int) := by omega
            have hk1 : (k : Int) < (T.length : Int) := by omega
            go_wp2_with fail
            refine (HLK.out wr HW.out).mono ?_
            rintro r w4 ⟨lv, lc, rfl, hG4, hb4⟩
            have A4 := hide (below_alloc w4 (.cells #[.int .i64 0, .slice lv 1 lc] 36))
            have X4 := hide (Box.new w4 (.int .i64 0) (.slice lv 1 lc) 36)
            have B4 := hide (below_next HW.out (below_next hb4 A4.out))
            have RK4 := hide (hG4.below A4.out)
            clear hG4 hb4 A4 HLK q0 q1 q2 q3
            obtain ⟨⟨t0, t1⟩, t2, t3⟩ := X4.out
            obtain ⟨⟨q0, q1⟩, q2, q3⟩ := KL.out _ B4.out
            go_wp2_with fail
            clear t0 t1 t2 t3 q0 q1 q2 q3
            generalize w4.alloc (.cells #[.int .i64 0, .slice lv 1 lc] 36) = W4 at *
            generalize w4.heap.size = b4 at *
            have KM : Hid (∀ w' : World, Below W4.heap.size W4 w' → ((w'.cell? ⟨b3, 2, none⟩ = some (.slice (some ⟨bl, ol, none⟩) T.length mc) ∧ w'.cell? ⟨b2, 1, none⟩ = some (.slice (some ⟨bn, on, none⟩) T.length pc)) ∧ w'.cell? ⟨bl, ol + k * 4, none⟩ = some (.string (str e.path)) ∧ w'.cell? ⟨bn, on + k, none⟩ = some (.string (str e.path))) ∧ (w'.cell? ⟨b4, 0, none⟩ = some (.int .i64 0) ∧ w'.cell? ⟨b4, 1, none⟩ = some (.slice lv 1 lc))) := hide (fun w' hb' => ⟨KL.out _ (below_next B4.out hb'), (X4.out.below hb').1⟩)
            have HSL : Hid (∀ (u : World) (c2 : Nat), Below W4.heap.size W4 u → Calls Tryz.prog 13 #[.slice lv 1 lc, .slice (some ⟨bl, ol + k * 4, none⟩) 1 c2] u fun r w' => r = .returned (.bool true) ∧ Below u.heap.size u w') := hide (fun u c2 hu => by
              have h1 := implSameLayers_any lv _ lc c2 1 1 [e] [e] u (RK4.out.below hu) (RS.out.below (below_next B4.out hu)) rfl rfl (by simp) (by simp) (fun z hz => by simp at hz; subst hz; exact hse) (fun z hz => by simp at hz; subst hz; exact hse)
              rw [decide_eq_true rfl] at h1
              exact h1)
            have hm2 : (k : Int) ≤ (k : Int) + 1 := by omega
            have hm3 : (k : Int) + 1 ≤ (mc : Int) := by omega
            have hm4 : IntKind.i64.wrap ((k : Int) + 1) = (k : Int) + 1 := by simp [IntKind.wrap, IntKind.signed, IntKind.bits]; omega
            have hm5 : (0 : Int) ≤ (k : Int) + 1 := by omega
            obtain ⟨⟨⟨q0, q1⟩, q2, q3⟩, q4, q5⟩ := KM.out W4 (Below.refl _ _)
            clear q0 q1 q2 q3 q4 q5
            have hm6 : ((k : Int) + 1).toNat = k + 1 := by omega
            have hm7 : ¬ mc = k := by omega
            refine wp_region_held_drew (S := fun w' => ((w'.cell? ⟨b3, 2, none⟩ = some (.slice (some ⟨bl, ol, none⟩) T.length mc) ∧ w'.cell? ⟨b2, 1, none⟩ = some (.slice (some ⟨bn, on, none⟩) T.length pc)) ∧ w'.cell? ⟨bl, ol + k * 4, none⟩ = some (.string (str e.path)) ∧ w'.cell? ⟨bn, on + k, none⟩ = some (.string (str e.path))) ∧ (w'.cell? ⟨b4, 0, none⟩ = some (.int .i64 0) ∧ w'.cell? ⟨b4, 1, none⟩ = some (.slice lv 1 lc))) (by kernel_rfl) (KM.out _ (Below.refl _ _).drew) (fun hHeld => ?_)
            change wpAnyH _ _ _ _ _ _ (Array.replicate _ false) _ _
            refine wpAnyH_take (i := 0) (oi := { dst := some 73, op := _, type := _, pos := _, after := _, guard := _ }) (v := .pointer (some ⟨b2, 1, none⟩)) rfl (by kernel_rfl) (by kernel_rfl) (by kernel_rfl) (fun _ _ _ h => h) (Or.inl ⟨by rfl, ?_⟩) hHeld ?_
            · intro w hSw
              obtain ⟨⟨⟨q0, q1⟩, q2, q3⟩, q4, q5⟩ := hSw
              go_simp <;> (first | done | (intro _; omega))
            try simp only [Act.put, List.setIfInBounds_toArray, List.set_cons_zero, List.set_cons_succ]
            refine wpAnyH_take (i := 1) (oi := { dst := some 74, op := _, type := _, pos := _, after := _, guard := _ }) (v := .slice (some ⟨bn, on, none⟩) T.length pc) rfl (by kernel_rfl) (by kernel_rfl) (by kernel_rfl) (fun _ _ _ h => h) (Or.inl ⟨by rfl, ?_⟩) hHeld ?_
            · intro w hSw
              obtain ⟨⟨⟨q0, q1⟩, q2, q3⟩, q4, q5⟩ := hSw
              go_simp <;> (first | done | (intro _; omega))
            try simp only [Act.put, List.setIfInBounds_toArray, List.set_cons_zero, List.set_cons_succ]
            refine wpAnyH_take (i := 2) (oi := { dst := some 75, op := _, type := _, pos := _, after := _, guard := _ }) (v := .int .i64 k) rfl (by kernel_rfl) (by kernel_rfl) (by kernel_rfl) (fun _ _ _ h => h) (Or.inl ⟨by rfl, ?_⟩) hHeld ?_
            · intro w hSw
              obtain ⟨⟨⟨q0, q1⟩, q2, q3⟩, q4, q5⟩ := hSw
              go_simp <;> (first | done | (intro _; omega))
            try simp only [Act.put, List.setIfInBounds_toArray, List.set_cons_zero, List.set_cons_succ]
            refine wpAnyH_take (i := 3) (oi := { dst := some 76, op := _, type := _, pos := _, after := _, guard := _ }) (v := .pointer (some ⟨bn, on + k, none⟩)) rfl (by kernel_rfl) (by kernel_rfl) (by kernel_rfl) (fun _ _ _ h => h) (Or.inl ⟨by rfl, ?_⟩) hHeld ?_
            · intro w hSw
              obtain ⟨⟨⟨q0, q1⟩, q2, q3⟩, q4, q5⟩ := hSw
              go_simp <;> (first | done | (intro _; omega))
            try simp only [Act.put, List.setIfInBounds_toArray, List.set_cons_zero, List.set_cons_succ]
            refine wpAnyH_take (i := 4) (oi := { dst := some 77, op := _, type := _, pos := _, after := _, guard := _ }) (v := .string (str e.path)) rfl (by kernel_rfl) (by kernel_rfl) (by kernel_rfl) (fun _ _ _ h => h) (Or.inl ⟨by rfl, ?_⟩) hHeld ?_
            · intro w hSw
              obtain ⟨⟨⟨q0, q1⟩, q2, q3⟩, q4, q5⟩ := hSw
              go_simp <;> (first | done | (intro _; omega))
            try simp only [Act.put, List.setIfInBounds_toArray, List.set_cons_zero, List.set_cons_succ]
            refine wpAnyH_take (i := 5) (oi := { dst := some 78, op := _, type := _, pos := _, after := _, guard := _ }) (v := .pointer (some ⟨b3, 2, none⟩)) rfl (by kernel_rfl) (by kernel_rfl) (by kernel_rfl) (fun _ _ _ h => h) (Or.inl ⟨by rfl, ?_⟩) hHeld ?_
            · intro w hSw
              obtain ⟨⟨⟨q0, q1⟩, q2, q3⟩, q4, q5⟩ := hSw
              go_simp <;> (first | done | (intro _; omega))
            try simp only [Act.put, List.setIfInBounds_toArray, List.set_cons_zero, List.set_cons_succ]
            refine wpAnyH_take (i := 6) (oi := { dst := some 79, op := _, type := _, pos := _, after := _, guard := _ }) (v := .slice (some ⟨bl, ol, none⟩) T.length mc) rfl (by kernel_rfl) (by kernel_rfl) (by kernel_rfl) (fun _ _ _ h => h) (Or.inl ⟨by rfl, ?_⟩) hHeld ?_
            · intro w hSw
              obtain ⟨⟨⟨q0, q1⟩, q2, q3⟩, q4, q5⟩ := hSw
              go_simp <;> (first | done | (intro _; omega))
            try simp only [Act.put, List.setIfInBounds_toArray, List.set_cons_zero, List.set_cons_succ]
            refine wpAnyH_take (i := 7) (oi := { dst := some 80, op := _, type := _, pos := _, after := _, guard := _ }) (v := .int .i64 k) rfl (by kernel_rfl) (by kernel_rfl) (by kernel_rfl) (fun _ _ _ h => h) (Or.inl ⟨by rfl, ?_⟩) hHeld ?_
            · intro w hSw
              obtain ⟨⟨⟨q0, q1⟩, q2, q3⟩, q4, q5⟩ := hSw
              go_simp <;> (first | done | (intro _; omega))
            try simp only [Act.put, List.setIfInBounds_toArray, List.set_cons_zero, List.set_cons_succ]
            refine wpAnyH_take (i := 8) (oi := { dst := some 81, op := _, type := _, pos := _, after := _, guard := _ }) (v := .pointer (some ⟨bl, ol + k * 4, none⟩)) rfl (by kernel_rfl) (by kernel_rfl) (by kernel_rfl) (fun _ _ _ h => h) (Or.inl ⟨by rfl, ?_⟩) hHeld ?_
            · intro w hSw
              obtain ⟨⟨⟨q0, q1⟩, q2, q3⟩, q4, q5⟩ := hSw
              go_simp <;> (first | done | (intro _; omega))
            try simp only [Act.put, List.setIfInBounds_toArray, List.set_cons_zero, List.set_cons_succ]
            refine wpAnyH_take (i := 9) (oi := { dst := some 82, op := _, type := _, pos := _, after := _, guard := _ }) (v := .pointer (some ⟨bl, ol + k * 4, none⟩)) rfl (by kernel_rfl) (by kernel_rfl) (by kernel_rfl) (fun _ _ _ h => h) (Or.inl ⟨by rfl, ?_⟩) hHeld ?_
            · intro w hSw
              obtain ⟨⟨⟨q0, q1⟩, q2, q3⟩, q4, q5⟩ := hSw
              go_simp <;> (first | done | (intro _; omega))
            try simp only [Act.put, List.setIfInBounds_toArray, List.set_cons_zero, List.set_cons_succ]
            refine wpAnyH_take (i := 10) (oi := { dst := some 83, op := _, type := _, pos := _, after := _, guard := _ }) (v := .string (str e.path)) rfl (by kernel_rfl) (by kernel_rfl) (by kernel_rfl) (fun _ _ _ h => h) (Or.inl ⟨by rfl, ?_⟩) hHeld ?_
            · intro w hSw
              obtain ⟨⟨⟨q0, q1⟩, q2, q3⟩, q4, q5⟩ := hSw
              go_simp <;> (first | done | (intro _; omega))
            try simp only [Act.put, List.setIfInBounds_toArray, List.set_cons_zero, List.set_cons_succ]
            refine wpAnyH_take (i := 11) (oi := { dst := some 84, op := _, type := _, pos := _, after := _, guard := _ }) (v := .bool false) rfl (by kernel_rfl) (by kernel_rfl) (by kernel_rfl) (fun _ _ _ h => h) (Or.inl ⟨by rfl, ?_⟩) hHeld ?_
            · intro w hSw
              obtain ⟨⟨⟨q0, q1⟩, q2, q3⟩, q4, q5⟩ := hSw
              go_simp <;> (first | done | (intro _; omega))
            try simp only [Act.put, List.setIfInBounds_toArray, List.set_cons_zero, List.set_cons_succ]
            refine wpAnyH_take (i := 12) (oi := { dst := some 85, op := _, type := _, pos := _, after := _, guard := _ }) (v := .bool false) rfl (by kernel_rfl) (by kernel_rfl) (by kernel_rfl) (fun _ _ _ h => h) (Or.inl ⟨by rfl, ?_⟩) hHeld ?_
            · intro w hSw
              obtain ⟨⟨⟨q0, q1⟩, q2, q3⟩, q4, q5⟩ := hSw
              go_simp <;> (first | done | (intro _; omega))
            try simp only [Act.put, List.setIfInBounds_toArray, List.set_cons_zero, List.set_cons_succ]
            refine wpAnyH_take (i := 13) (oi := { dst := some 86, op := _, type := _, pos := _, after := _, guard := _ }) (v := .pointer (some ⟨b4, 0, none⟩)) rfl (by kernel_rfl) (by kernel_rfl) (by kernel_rfl) (fun _ _ _ h => h) (Or.inl ⟨by rfl, ?_⟩) hHeld ?_
            · intro w hSw
              obtain ⟨⟨⟨q0, q1⟩, q2, q3⟩, q4, q5⟩ := hSw
              go_simp <;> (first | done | (intro _; omega))
            try simp only [Act.put, List.setIfInBounds_toArray, List.set_cons_zero, List.set_cons_succ]
            refine wpAnyH_take (i := 14) (oi := { dst := some 87, op := _, type := _, pos := _, after := _, guard := _ }) (v := .int .i64 0) rfl (by kernel_rfl) (by kernel_rfl) (by kernel_rfl) (fun _ _ _ h => h) (Or.inl ⟨by rfl, ?_⟩) hHeld ?_
            · intro w hSw
              obtain ⟨⟨⟨q0, q1⟩, q2, q3⟩, q4, q5⟩ := hSw
              go_simp <;> (first | done | (intro _; omega))
            try simp only [Act.put, List.setIfInBounds_toArray, List.set_cons_zero, List.set_cons_succ]
            refine wpAnyH_take (i := 15) (oi := { dst := some 88, op := _, type := _, pos := _, after := _, guard := _ }) (v := .bool false) rfl (by kernel_rfl) (by kernel_rfl) (by kernel_rfl) (fun _ _ _ h => h) (Or.inl ⟨by rfl, ?_⟩) hHeld ?_
            · intro w hSw
              obtain ⟨⟨⟨q0, q1⟩, q2, q3⟩, q4, q5⟩ := hSw
              go_simp <;> (first | done | (intro _; omega))
            try simp only [Act.put, List.setIfInBounds_toArray, List.set_cons_zero, List.set_cons_succ]
            refine wpAnyH_take (i := 16) (oi := { dst := some 89, op := _, type := _, pos := _, after := _, guard := _ }) (v := .bool false) rfl (by kernel_rfl) (by kernel_rfl) (by kernel_rfl) (fun _ _ _ h => h) (Or.inl ⟨by rfl, ?_⟩) hHeld ?_
            · intro w hSw
              obtain ⟨⟨⟨q0, q1⟩, q2, q3⟩, q4, q5⟩ := hSw
              go_simp <;> (first | done | (intro _; omega))
            try simp only [Act.put, List.setIfInBounds_toArray, List.set_cons_zero, List.set_cons_succ]
            refine wpAnyH_take (i := 17) (oi := { dst := some 90, op := _, type := _, pos := _, after := _, guard := _ }) (v := .bool false) rfl (by kernel_rfl) (by kernel_rfl) (by kernel_rfl) (fun _ _ _ h => h) (Or.inl ⟨by rfl, ?_⟩) hHeld ?_
            · intro w hSw
              obtain ⟨⟨⟨q0, q1⟩, q2, q3⟩, q4, q5⟩ := hSw
              go_simp <;> (first | done | (intro _; omega))
            try simp only [Act.put, List.setIfInBounds_toArray, List.set_cons_zero, List.set_cons_succ]
            refine wpAnyH_take (i := 18) (oi := { dst := some 91, op := _, type := _, pos := _, after := _, guard := _ }) (v := .pointer (some ⟨b4, 1, none⟩)) rfl (by kernel_rfl) (by kernel_rfl) (by kernel_rfl) (fun _ _ _ h => h) (Or.inl ⟨by rfl, ?_⟩) hHeld ?_
            · intro w hSw
              obtain ⟨⟨⟨q0, q1⟩, q2, q3⟩, q4, q5⟩ := hSw
              go_simp <;> (first | done | (intro _; omega))
            try simp only [Act.put, List.setIfInBounds_toArray, List.set_cons_zero, List.set_cons_succ]
            refine wpAnyH_take (i := 19) (oi := { dst := some 92, op := _, type := _, pos := _, after := _, guard := _ }) (v := .slice lv 1 lc) rfl (by kernel_rfl) (by kernel_rfl) (by kernel_rfl) (fun _ _ _ h => h) (Or.inl ⟨by rfl, ?_⟩) hHeld ?_
            · intro w hSw
              obtain ⟨⟨⟨q0, q1⟩, q2, q3⟩, q4, q5⟩ := hSw
              go_simp <;> (first | done | (intro _; omega))
            try simp only [Act.put, List.setIfInBounds_toArray, List.set_cons_zero, List.set_cons_succ]
            refine wpAnyH_take (i := 20) (oi := { dst := some 93, op := _, type := _, pos := _, after := _, guard := _ }) (v := .pointer (some ⟨b3, 2, none⟩)) rfl (by kernel_rfl) (by kernel_rfl) (by kernel_rfl) (fun _ _ _ h => h) (Or.inl ⟨by rfl, ?_⟩) hHeld ?_
            · intro w hSw
              obtain ⟨⟨⟨q0, q1⟩, q2, q3⟩, q4, q5⟩ := hSw
              go_simp <;> (first | done | (intro _; omega))
            try simp only [Act.put, List.setIfInBounds_toArray, List.set_cons_zero, List.set_cons_succ]
            refine wpAnyH_take (i := 21) (oi := { dst := some 94, op := _, type := _, pos := _, after := _, guard := _ }) (v := .slice (some ⟨bl, ol, none⟩) T.length mc) rfl (by kernel_rfl) (by kernel_rfl) (by kernel_rfl) (fun _ _ _ h => h) (Or.inl ⟨by rfl, ?_⟩) hHeld ?_
            · intro w hSw
              obtain ⟨⟨⟨q0, q1⟩, q2, q3⟩, q4, q5⟩ := hSw
              go_simp <;> (first | done | (intro _; omega))
            try simp only [Act.put, List.setIfInBounds_toArray, List.set_cons_zero, List.set_cons_succ]
            refine wpAnyH_take (i := 22) (oi := { dst := some 95, op := _, type := _, pos := _, after := _, guard := _ }) (v := .int .i64 k) rfl (by kernel_rfl) (by kernel_rfl) (by kernel_rfl) (fun _ _ _ h => h) (Or.inl ⟨by rfl, ?_⟩) hHeld ?_
            · intro w hSw
              obtain ⟨⟨⟨q0, q1⟩, q2, q3⟩, q4, q5⟩ := hSw
              go_simp <;> (first | done | (intro _; omega))
            try simp only [Act.put, List.setIfInBounds_toArray, List.set_cons_zero, List.set_cons_succ]
            refine wpAnyH_take (i := 23) (oi := { dst := some 96, op := _, type := _, pos := _, after := _, guard := _ }) (v := .int .i64 k) rfl (by kernel_rfl) (by kernel_rfl) (by kernel_rfl) (fun _ _ _ h => h) (Or.inl ⟨by rfl, ?_⟩) hHeld ?_
            · intro w hSw
              obtain ⟨⟨⟨q0, q1⟩, q2, q3⟩, q4, q5⟩ := hSw
              go_simp <;> (first | done | (intro _; omega))
            try simp only [Act.put, List.setIfInBounds_toArray, List.set_cons_zero, List.set_cons_succ]
            refine wpAnyH_take (i := 24) (oi := { dst := some 97, op := _, type := _, pos := _, after := _, guard := _ }) (v := .int .i64 ((k : Int) + 1)) rfl (by kernel_rfl) (by kernel_rfl) (by kernel_rfl) (fun _ _ _ h => h) (Or.inl ⟨by rfl, ?_⟩) hHeld ?_
            · intro w hSw
              obtain ⟨⟨⟨q0, q1⟩, q2, q3⟩, q4, q5⟩ := hSw
              go_simp <;> (first | done | (intro _; omega))
            try simp only [Act.put, List.setIfInBounds_toArray, List.set_cons_zero, List.set_cons_succ]
            refine wpAnyH_take (i := 25) (oi := { dst := some 98, op := _, type := _, pos := _, after := _, guard := _ }) (v := .slice (some ⟨bl, ol + k * 4, none⟩) 1 (mc - k)) rfl (by kernel_rfl) (by kernel_rfl) (by kernel_rfl) (fun _ _ _ h => h) (Or.inl ⟨by rfl, ?_⟩) hHeld ?_
            · intro w hSw
              obtain ⟨⟨⟨q0, q1⟩, q2, q3⟩, q4, q5⟩ := hSw
              go_simp <;> (first | done | (intro _; omega))
            try simp only [Act.put, List.setIfInBounds_toArray, List.set_cons_zero, List.set_cons_succ]
            refine wpAnyH_ready (rs := [26]) (by kernel_rfl) (by simp) ?_
            refine AllReadyH.cons rfl (fun K hK => ?_) AllReadyH.nil
            go_simp
            refine (HSL.out _ _ (Below.refl _ _).drew).mono ?_
            rintro r w5 ⟨rfl, hb5⟩
            have BB1 := hide ((Below.refl W4.heap.size W4).drew.trans hb5)
            clear hb5
            go_wp2_with fail
            refine hK.out _ _ (KM.out _ BB1.out) (fun hHeld => ?_)
            clear hK K
            try simp only [Act.put, List.setIfInBounds_toArray, List.set_cons_zero, List.set_cons_succ]
            refine wpAnyH_take (i := 27) (oi := { dst := some 100, op := _, type := _, pos := _, after := _, guard := _ }) (v := .bool false) rfl (by kernel_rfl) (by kernel_rfl) (by kernel_rfl) (fun _ _ _ h => h) (Or.inl ⟨by rfl, ?_⟩) hHeld ?_
            · intro w hSw
              obtain ⟨⟨⟨q0, q1⟩, q2, q3⟩, q4, q5⟩ := hSw
              go_simp <;> (first | done | (intro _; omega))
            try simp only [Act.put, List.setIfInBounds_toArray, List.set_cons_zero, List.set_cons_succ]
            refine wpAnyH_take (i := 28) (oi := { dst := some 101, op := _, type := _, pos := _, after := _, guard := _ }) (v := .bool false) rfl (by kernel_rfl) (by kernel_rfl) (by kernel_rfl) (fun _ _ _ h => h) (Or.inl ⟨by rfl, ?_⟩) hHeld ?_
            · intro w hSw
              obtain ⟨⟨⟨q0, q1⟩, q2, q3⟩, q4, q5⟩ := hSw
              go_simp <;> (first | done | (intro _; omega))
            try simp only [Act.put, List.setIfInBounds_toArray, List.set_cons_zero, List.set_cons_succ]
            refine wpAnyH_done (by kernel_rfl) ?_ _
            go_wp2_with fail
            go_roundw
            case rel => exact ⟨k + 1, by omega, by go_num, hide (below_next B4.out BB1.out)⟩
            case measure => simp [intOf]; omega
          · clear HW HOL RN3
            have HW : Hid (Below W3.heap.size W3 wr) := HWo
            obtain ⟨q0, q1⟩ := KB.out _ HW.out
            go_wp2_with fail
            clear q0 q1
            go_loopw [8] (fun i wx => ∃ m : Nat, m ≤ ls.length ∧ i = .int .i64 m ∧ Hid (Below W3.heap.size W3 wx)) (fun i _ => ls.length - (intOf i).toNat)
            case atStart => exact ⟨0, Nat.zero_le _, rfl, HW⟩
            case round =>
              obtain ⟨m, hm, rfl, HW2⟩ := hrel
              have HW2o := HW2
              by_cases hlt2 : m < ls.length
              · obtain ⟨ba, oa, es, ea, ec, hav, hba, hes, y0, hre⟩ := RL3.out.at hlt2
                subst hav
                have HES := hide (List.mem_of_getElem? hes)
                have hel := (HSA.out es HES.out).1
                have RE := hide hre
                have KE : Hid (∀ w' : World, Below W3.heap.size W3 w' → w'.cell? ⟨ba, oa + m, none⟩ = some (.slice ea es.length ec)) := hide (fun w' hb' => (hb'.cell (p := ⟨ba, oa + m, none⟩) hba).trans y0)
                clear hes hre y0
                have hm0 : (0 : Int) ≤ (m : Int) := by omega
                have hm1 : (m : Int) < (ls.length : Int) := by omega
                go_wp2_with fail
                go_loopw [9] (fun i wy => ∃ j : Nat, j ≤ es.length ∧ i = .int .i64 j ∧ Hid (Below W3.heap.size W3 wy)) (fun i _ => es.length - (intOf i).toNat)
                case atStart => exact ⟨0, Nat.zero_le _, rfl, HW2⟩
                case round =>
                  obtain ⟨j, hj, rfl, HW3⟩ := hrel
                  have e0 := KE.out _ HW3.out
                  by_cases hlt3 : j < es.length
                  · obtain ⟨bl, ol, e, x, cc, hbv, hbl, he, y0, y1, y2, y3, hr⟩ := RE.out.at hlt3
                    subst hbv
                    have HX := hide (List.mem_of_getElem? he)
                    have hse := (HS.out es HES.out).2 e HX.out
                    have hq := HOS.out es HES.out e HX.out
                    have KL : Hid (∀ w' : World, Below W3.heap.size W3 w' → (w'.cell? ⟨b3, 2, none⟩ = some (.slice mv T.length mc) ∧ w'.cell? ⟨ba, oa + m, none⟩ = some (.slice (some ⟨bl, ol, none⟩) es.length ec)) ∧ w'.cell? ⟨bl, ol + j * 4, none⟩ = some (.string (str e.path))) := hide (fun w' hb' => ⟨⟨(KB.out w' hb').1, KE.out w' hb'⟩, (hb'.cell (p := ⟨bl, ol + j * 4, none⟩) hbl).trans y0⟩)
                    clear he hr y0 y1 y2 y3 e0
                    have hj0 : (0 : Int) ≤ (j : Int) := by omega
                    have hj1 : (j : Int) < (es.length : Int) := by omega
                    have HLK : Hid (∀ u : World, Below W3.heap.size W3 u → Calls Tryz.prog 12 #[.slice (some ⟨ba, oa, none⟩) ls.length cv, .string (str e.path)] u fun r w' => ∃ lv ln lc, r = .returned (.agg #[.int .i64 (plcC ls e.path), .slice lv ln lc]) ∧ Below u.heap.size u w') := hide (fun u hu => by
                      have h1 := implLookOver_any (some ⟨ba, oa, none⟩) cv ls.length ls e.path u (RL3.out.below hu) rfl (by omega) HS.out hse.1
                      exact h1.mono (fun r w' ⟨lv, lc, h2, h3, h4⟩ => ⟨lv, _, lc, h2, h4⟩))
                    have HST : Hid (∀ u : World, Below W3.heap.size W3 u → Calls Tryz.prog 14 #[.slice mv T.length mc, .string (str e.path)] u fun r w' => ∃ lv ln lc, r = .returned (.agg #[.int .i64 (statC T e.path), .slice lv ln lc]) ∧ Below u.heap.size u w') := hide (fun u hu => by
                      have h1 := implStatTree_any mv mc T.length T e.path u (RM3.out.below hu) rfl (by omega) HMS.out hse.1
                      exact h1.mono (fun r w' ⟨lv, lc, h2, h3, h4⟩ => ⟨lv, _, lc, h2, h4⟩))
                    have hfl : ∀ (w : World) (F : Int) (v : Value), (Instr.field 36 (.agg #[.int .i64 F, v]) 0).run Tryz.prog w = .ok (.int .i64 F) w := fun _ _ _ => by kernel_rfl
                    obtain ⟨⟨q0, q1⟩, q2⟩ := KL.out _ HW3.out
                    have HBB : Hid ((plcC ls e.path == 0) = (statC T e.path == 0)) := hide (by
                      by_cases hc : plcC ls e.path = 0
                      · rw [hc, hq.1 hc]
                      · have h2 : ¬ statC T e.path = 0 := fun h2 => hc (hq.2 h2)
                        rw [show (plcC ls e.path == 0) = false by simpa using hc, show (statC T e.path == 0) = false by simpa using h2])
                    generalize plcC ls e.path = F1 at *
                    generalize statC T e.path = F2 at *
                    clear hq
                    go_wp2_with fail
                    refine (HLK.out wr HW3.out).mono ?_
                    rintro r w4 ⟨lv, ln, lc, rfl, hb4⟩
                    have A4 := hide (below_alloc w4 (.cells #[.int .i64 F1, .slice lv ln lc] 36))
                    have X4 := hide (Box.new w4 (.int .i64 F1) (.slice lv ln lc) 36)
                    have B4 := hide (below_next HW3.out (below_next hb4 A4.out))
                    clear hb4 A4 HLK q0 q1 q2
                    obtain ⟨⟨t0, t1⟩, t2, t3⟩ := X4.out
                    obtain ⟨⟨q0, q1⟩, q2⟩ := KL.out _ B4.out
                    go_wp2_with fail
                    clear t0 t1 t2 t3 q0 q1 q2
                    generalize w4.alloc (.cells #[.int .i64 F1, .slice lv ln lc] 36) = W4 at *
                    generalize w4.heap.size = b4 at *
                    have KM : Hid (∀ w' : World, Below W4.heap.size W4 w' → ((w'.cell? ⟨b3, 2, none⟩ = some (.slice mv T.length mc) ∧ w'.cell? ⟨ba, oa + m, none⟩ = some (.slice (some ⟨bl, ol, none⟩) es.length ec)) ∧ w'.cell? ⟨bl, ol + j * 4, none⟩ = some (.string (str e.path))) ∧ w'.cell? ⟨b4, 0, none⟩ = some (.int .i64 F1)) := hide (fun w' hb' => ⟨KL.out _ (below_next B4.out hb'), (X4.out.below hb').1.1⟩)
                    obtain ⟨⟨⟨q0, q1⟩, q2⟩, q3⟩ := KM.out W4 (Below.refl _ _)
                    go_region_held3 (fun w' => ((w'.cell? ⟨b3, 2, none⟩ = some (.slice mv T.length mc) ∧ w'.cell? ⟨ba, oa + m, none⟩ = some (.slice (some ⟨bl, ol, none⟩) es.length ec)) ∧ w'.cell? ⟨bl, ol + j * 4, none⟩ = some (.string (str e.path))) ∧ w'.cell? ⟨b4, 0, none⟩ = some (.int .i64 F1)) (first | exact KM.out _ BB1.out | exact KM.out _ (Below.refl _ _).drew | go_keep)
                      ((go_at_call 14; refine (HST.out _ (below_next B4.out (Below.refl _ _).drew)).mono ?_; rintro r w5 ⟨lv5, ln5, lc5, rfl, hb5⟩; have BB1 := hide ((Below.refl W4.heap.size W4).drew.trans hb5); clear hb5))
                    have hbb := HBB.out
                    rw [hbb]
                    clear hbb HBB
                    cases hF2 : (F2 == 0)
                    · go_wp2_with fail
                      go_roundw
                      case rel => exact ⟨j + 1, by omega, by go_num, hide (below_next B4.out BB1.out)⟩
                      case measure => simp [intOf]; omega
                    · go_wp2_with fail
                      go_roundw
                      case rel => exact ⟨j + 1, by omega, by go_num, hide (below_next B4.out BB1.out)⟩
                      case measure => simp [intOf]; omega
                  · go_wp2_with fail
                    go_roundw
                    case rel => exact ⟨m + 1, by omega, by go_num, HW3⟩
                    case measure => simp [intOf]; omega
              · clear HW2
                have HW2 : Hid (Below W3.heap.size W3 wr) := HW2o
                have KC : Hid (∀ w' : World, Below W3.heap.size W3 w' → w'.cell? ⟨b3, 2, none⟩ = some (.slice mv T.length mc)) := hide (fun w' hb' => (KB.out w' hb').1)
                have HM2 : Hid (∀ u : World, Below W3.heap.size W3 u → Calls Tryz.prog 11 #[.slice av ls.length cv] u fun r w' => ∃ tv tc, r = .returned (.agg #[.int .i64 0, .int .i64 0, .slice tv T.length tc]) ∧ Below u.heap.size u w') := hide (fun u hu => (HSP.out u hu).mono (fun r w' ⟨tv, tc, h2, h3, h4⟩ => ⟨tv, tc, h2, h4⟩))
                have hft : ∀ (w : World) (v : Value), (Instr.field 32 (.agg #[.int .i64 0, .int .i64 0, v]) 2).run Tryz.prog w = .ok v w := fun _ _ => by kernel_rfl
                have q0 := KC.out _ HW2.out
                go_wp2_with fail
                go_region_held3 (fun w' => w'.cell? ⟨b3, 2, none⟩ = some (.slice mv T.length mc)) (first | exact KC.out _ BB1.out | exact KC.out _ HW2.out.drew | go_keep)
                  ((go_at_call 11; refine (HM2.out _ HW2.out.drew).mono ?_; rintro r w5 ⟨tv5, tc5, rfl, hb5⟩; have BB1 := hide (below_next HW2.out.drew hb5); clear hb5))
                go_wp2_with fail
                go_ret
                exact ⟨rfl, below_next B3.out BB1.out⟩
      · generalize malL ls = DL at *
        generalize malC ls = F at *
        rw [hz] at X23 ⊢
        have hz2 : (F != 0) = true := by simp; exact hm
        have hff : (F == F) = true := by simp
        clear hm hz
        obtain ⟨⟨s0, s1⟩, s2, s3⟩ := X23.out
        obtain ⟨⟨t0, t1, t2⟩, t3, t4, t5⟩ := X3.out
        go_wp2_with fail
        clear s0 s1 s2 s3 t0 t1 t2 t3 t4 t5
        generalize w3.alloc (.cells #[.int .i64 F, .int .i64 0, .slice mv DL.length mc] 32) = W3 at *
        generalize w3.heap.size = b3 at *
        have KC : Hid (∀ w' : World, Below W3.heap.size W3 w' → w'.cell? ⟨b3, 0, none⟩ = some (.int .i64 F)) := hide (fun w' hb' => (X3.out.below hb').1.1)
        have q0 := KC.out W3 (Below.refl _ _)
        have hfd : ∀ (w : World) (v : Value), (Instr.field 32 (.agg #[.int .i64 F, .int .i64 0, v]) 0).run Tryz.prog w = .ok (.int .i64 F) w := fun _ _ => by kernel_rfl
        go_region_held3 (fun w' => w'.cell? ⟨b3, 0, none⟩ = some (.int .i64 F)) (first | exact KC.out _ BB5.out | go_keep)
          ((go_at_call 11; refine (HSP.out _ (Below.refl _ _).drew).mono ?_; rintro r w8 ⟨xv5, xc5, rfl, -, hb5⟩; have BB5 := hide ((Below.refl W3.heap.size W3).drew.trans hb5); clear hb5))
        go_wp2_with fail
        go_ret
        exact ⟨rfl, below_next B3.out BB5.out⟩
    · obtain ⟨hmc, -⟩ := mal_bad hz
      have HS1 : Hid (∀ u : World, Below (w3.alloc (.cells #[.int .i64 (malC ls), .int .i64 0, .slice mv (malL ls).length mc] 32)).heap.size (w3.alloc (.cells #[.int .i64 (malC ls), .int .i64 0, .slice mv (malL ls).length mc] 32)) u → Calls Tryz.prog 9 #[.slice av ls.length cv] u fun r w' => ∃ xv xn xc, r = .returned (.agg #[.int .i64 (layersP ls), .slice xv xn xc]) ∧ Below u.heap.size u w') := hide (fun u hb' => (specPathsOver_bad av cv ls.length ls u (RL3.out.below hb') rfl (by omega) HS.out HG.out hz).mono (fun r w' ⟨xv, xc, h2, _, h3⟩ => ⟨xv, _, xc, h2, h3⟩))
      have HS2 : Hid (∀ u : World, Below (w3.alloc (.cells #[.int .i64 (malC ls), .int .i64 0, .slice mv (malL ls).length mc] 32)).heap.size (w3.alloc (.cells #[.int .i64 (malC ls), .int .i64 0, .slice mv (malL ls).length mc] 32)) u → Calls Tryz.prog 10 #[.slice av ls.length cv] u fun r w' => r = .returned (.int .i64 (layersP ls)) ∧ Below u.heap.size u w') := hide (fun u hb' => implLayersFault_any av cv ls.length ls u (RL3.out.below hb') rfl (by omega) HS.out)
      clear HSP
      rw [hmc] at X3 X23 B3 HS1 HS2 RM3 RN3 RL3 ⊢
      generalize malL ls = DL at *
      generalize pthL ls = PL at *
      clear hmc
      generalize layersP ls = F at *
      have hz2 : (F != 0) = true := by simp; exact hz
      have hff : (F == F) = true := by simp
      clear hz
      obtain ⟨⟨s0, s1⟩, s2, s3⟩ := X23.out
      obtain ⟨⟨t0, t1, t2⟩, t3, t4, t5⟩ := X3.out
      go_wp2_with fail
      clear s0 s1 s2 s3 t0 t1 t2 t3 t4 t5
      generalize w3.alloc (.cells #[.int .i64 F, .int .i64 0, .slice mv DL.length mc] 32) = W3 at *
      generalize w3.heap.size = b3 at *
      have KC : Hid (∀ w' : World, Below W3.heap.size W3 w' → w'.cell? ⟨b3, 0, none⟩ = some (.int .i64 F) ∧ w'.cell? ⟨b2, 0, none⟩ = some (.int .i64 F)) := hide (fun w' hb' => ⟨(X3.out.below hb').1.1, (X23.out.below hb').1.1⟩)
      obtain ⟨q0, q1⟩ := KC.out W3 (Below.refl _ _)
      have hfd : ∀ (w : World) (v : Value), (Instr.field 28 (.agg #[.int .i64 F, v]) 0).run Tryz.prog w = .ok (.int .i64 F) w := fun _ _ => by kernel_rfl
      go_region_held3 (fun w' => w'.cell? ⟨b3, 0, none⟩ = some (.int .i64 F) ∧ w'.cell? ⟨b2, 0, none⟩ = some (.int .i64 F)) (first | exact KC.out _ BB6.out | exact KC.out _ BB5.out | go_keep)
        ((first
          | (go_at_call 9; refine (HS1.out _ (Below.refl _ _).drew).mono ?_; rintro r w5 ⟨xv5, xn5, xc5, rfl, hb5⟩; have BB5 := hide ((Below.refl W3.heap.size W3).drew.trans hb5); clear hb5)
          | (go_at_call 10; refine (HS2.out _ BB5.out).mono ?_; rintro r w6 ⟨rfl, hb6⟩; have BB6 := hide (below_next BB5.out hb6); clear hb6)))
      go_wp2_with fail
      go_ret
      exact ⟨rfl, below_next B3.out BB6.out⟩

set_option maxRecDepth 100000 in
theorem lifted (os : Os) (started : os.Started) (H : Type) (enc : TypeId × Value → H) :
    ReturnsInHanded {} Tryz.checked os 3 .any (Rows.fnOversSpec.pre6 enc Tryz.prog Tryz.f3 Rows.fnOversRow.domain false) (Rows.fnOversSpec.post enc Tryz.prog Tryz.f3 false true false false) := by
  refine returnsInHanded_of_change (C := Tryz.checked) own started (by kernel_rfl) Tryz.func3
    (ChangeSpec.witness6 (enc := enc) (C := Tryz.checked) false ⟨#[], #[.slice none 0 0], []⟩ 8 (by kernel_rfl) (by kernel_rfl) (by kernel_rfl) (by kernel_rfl)) ?_
  intro W base args ds gs before hval0 hW hcnd _
  have hval : ∀ (j : Nat) t v, Tryz.f3.params[j]? = some t → args[j]? = some v → Value.okWide Tryz.prog W .any base t v := hval0
  have hW' := hW
  obtain ⟨p, q, hA0, hV, rfl, hfz, hnd⟩ := hW
  have hA : DataW.TrodAll enc Tryz.prog W 0 (fun _ => true) true Tryz.f3.params.toList args.toList ds p := hA0
  rw [Tryz.params3] at hA hval
  obtain ⟨v0, vs0, d0, ds0, p0, q0, hargs, rfl, rfl, h0, r0⟩ := trodAll_cons hA
  obtain ⟨rfl, rfl, rfl⟩ := trodAll_nil r0
  obtain rfl : args = #[v0] := by cases args; simp_all
  obtain ⟨rfl, rfl⟩ := trodVars_none hV
  obtain ⟨a0, len0, cap0, rfl⟩ := okWide_slice Tryz.underlying22 (hval 0 22 v0 rfl rfl)
  have k0 := h0
  have lt0 : ∀ x ∈ p0, x.block < W.heap.size := by obtain ⟨m, hm⟩ := k0; exact DataW.trod_lt m _ _ _ hm
  obtain ⟨zs, hlen, hread, hu, hmax⟩ : ∃ zs : List Int, zs.length = len0 ∧ Reads .u8 W a0 zs ∧ U8 zs ∧ zs.length ≤ maxLen := by
    obtain ⟨fuel, hf⟩ := h0
    rcases open_ints Tryz.underlying22 Tryz.underlying5 (by kernel_rfl) hf with ⟨hcs, _⟩ | ⟨x, l, c, zs, hcs, _, hl, hm, hz, _, hcell, hwz⟩
    · simp [Value.cells] at hcs
      obtain ⟨rfl, rfl, rfl⟩ := hcs
      exact ⟨[], rfl, fun h => absurd rfl h, fun z hz => by simp at hz, Nat.zero_le _⟩
    · simp [Value.cells] at hcs
      obtain ⟨rfl, rfl, rfl⟩ := hcs
      exact reads_of_row (by simpa using hz) hl hm hcell hwz
  subst hlen
  clear hA0 hval0
  refine (walk a0 cap0 zs W hread hu hmax).mono fun e W' ⟨he, bel⟩ => ?_
  subst he
  exact ⟨_, rfl, _, _, _, [], _, [], hW', trodAll_mk1 (shut_bool Tryz.underlying4 _), (trodAll_cons_mk (Below.trod laidOut (by kernel_rfl) (of_decide_eq_true (by kernel_rfl)) k0 bel lt0) trodAll_mk0), rfl, bel.frame _, fun h => by cases h⟩

theorem over : Rows.fnOversRow.holds Tryz.pinned (OpenSpec.ofChange Rows.fnOversSpec) :=
  OpenClaim.holds_of_wide 3 Tryz.f3 rfl rfl rfl rfl rfl rfl rfl ⟨rfl, rfl, rfl, rfl, rfl⟩ rfl rfl rfl rfl rfl (by kernel_rfl) Tryz.func3 (by kernel_rfl)
    (of_decide_eq_true (by kernel_rfl)) (by unfold Func.isWrapper; first | (rw [if_pos (by decide +kernel)]; kernel_rfl) | (rw [if_neg (by decide +kernel)]; exact ⟨rfl, rfl⟩))
    (fun os started H enc _ => lifted os started H enc)

end Go.Proofs.YtjkmbicedbdifaaGreat.fnOvers
namespace Go.Proofs.YtjkmbicedbdifaaGreat
theorem fnOvers_holds : Rows.FnOversSaid := fnOvers.over
#print axioms fnOvers_holds
end Go.Proofs.YtjkmbicedbdifaaGreat
