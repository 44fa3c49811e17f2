/-
  At every list of chunks and every digest the law FnExactDropChunk returns true: DropChunk answers as its model does, leaves its arguments alone, and its answer owns its memory. No condition.
-/
import Derived.Test.YtdebojhginiihahDropC
import Derived.Test.YtdebojhginiihahChunksR
import Derived.Test.YtdebojhginiihahChunksIn
import Derived.ProofKit
import Derived.OpenShut
import Derived.ShutString
import Derived.ChangeOld
namespace Go.Proofs.Ytdebojhginiihah.dropChunk
open Go.ChangeShapes Go.WideShapes Go.ChangeAt Go.RowKit
set_option linter.unusedVariables false

theorem own : ownKnob Try.prog.godebug = none := by kernel_rfl
theorem laidOut : laidOutB Try.prog = true := by kernel_rfl

set_option maxHeartbeats 8000000 in
theorem core (w : World) (a0 : Option Addr) (n0 cap0 : Nat) (D0 : Nat → Int) (P0 : Nat → List Int) (r0 : RdC w a0 D0 P0 n0) (hn0 : n0 ≤ 1048576) (hP0 : ∀ i, i < n0 → (P0 i).length ≤ 1048576) (hfit : (n0 : Int) + (ahead P0 n0 : Int) ≤ 1048576) (a1 : Int) (q : Int) (n : Nat) (D : Nat → Int) (P : Nat → List Int) (hr : n ≤ 1048576) (hrP : ∀ i, i < n → (P i).length ≤ 1048576) (hah : ahead P n ≤ 1048576)
    (hs : (∀ (x0 : Nat) (u : World), RdC u (some ⟨x0, 0, none⟩) D0 P0 n0 → Calls Try.prog 26 #[.slice (some ⟨x0, 0, none⟩) n0 n0, .int .i64 a1] u fun e w' => ∃ a' c', e = .returned (.agg #[.int .i64 q, .slice a' n c']) ∧ GC u.heap.size w'.heap.size w' (.slice a' n c') D P n ∧ Below u.heap.size u w'))
    (hi : (∀ (x0 : Nat) (u : World), RdC u (some ⟨x0, 0, none⟩) D0 P0 n0 → Calls Try.prog 27 #[.slice (some ⟨x0, 0, none⟩) n0 n0, .int .i64 a1] u fun e w' => ∃ a' c', e = .returned (.agg #[.int .i64 q, .slice a' n c']) ∧ GC u.heap.size w'.heap.size w' (.slice a' n c') D P n ∧ Below u.heap.size u w')) :
    Calls Try.prog 5 #[.slice a0 n0 cap0, .int .i64 a1] w fun e w' => e = .returned (.bool true) ∧ Below w.heap.size w w' := by
  have R0 := hide r0
  clear r0
  have HP0 := hide hP0
  clear hP0
  have hleft : ¬ ((1048576 : Int) - n0 - ahead P0 n0) < 0 := by omega
  have HS := hide hs
  have HI := hide hi
  clear hs hi
  have HRP := hide hrP
  clear hrP
  go_enter Try.func5, Try.ntmps5
  go_wp2_with fail
  refine (szChunkS_fits a0 cap0 n0 D0 P0 1048576 _ R0.out (by decide) hfit).mono ?_
  rintro e w1 ⟨rfl, b1⟩
  have n_1 : w.heap.size ≤ w1.heap.size := b1.size
  have B_1 := hide (below_next (Below.refl _ _) b1)
  clear b1
  go_wp2_with fail
  refine (toChunkS_any a0 cap0 n0 D0 P0 _ (R0.out.below B_1.out) hn0 HP0.out).mono ?_
  rintro e w2 ⟨g2, rfl, -, gg2, b2⟩
  have n_2 : w1.heap.size ≤ w2.heap.size := b2.size
  have B_2 := hide (below_next B_1.out b2)
  have Y0_2 := hide (gg2.mono (B' := w1.heap.size) (by simp))
  clear gg2
  clear b2 B_1
  go_wp2_with fail
  refine (HS.out _ _ (Y0_2.out.rd)).mono ?_
  rintro e w3 ⟨ra3, rc3, rfl, rg3, b3⟩
  have n_3 : w2.heap.size ≤ w3.heap.size := b3.size
  have Y0_3 := hide (Y0_2.out.below b3)
  have B_3 := hide (below_next B_2.out b3)
  have Dd_3 := hide rg3
  clear rg3
  clear b3 Y0_2 B_2
  clear Y0_3
  go_wp2_with fail
  refine (toChunkS_any a0 cap0 n0 D0 P0 _ (R0.out.below (below_next B_3.out (below_alloc _ _))) hn0 HP0.out).mono ?_
  rintro e w4 ⟨g4, rfl, -, gg4, b4⟩
  have n_4 : w3.heap.size < w4.heap.size := by have := b4.size; simp at this; omega
  have Dd_4 := hide ((Dd_3.out.below (below_alloc _ _)).below b4)
  have T_4 := hide ((Two.new w3 (.int .i64 q) (.slice ra3 n rc3) 27).below b4)
  have B_4 := hide (below_next (below_next B_3.out (below_alloc _ _)) b4)
  have X0_4 := hide (gg4.mono (B' := w3.heap.size + 1) (by simp))
  clear gg4
  clear b4 Dd_3 B_3
  go_wp2_with fail
  refine (HI.out _ _ (X0_4.out.rd)).mono ?_
  rintro e w5 ⟨ra5, rc5, rfl, rg5, b5⟩
  have n_5 : w4.heap.size ≤ w5.heap.size := b5.size
  have Dd_5 := hide (Dd_4.out.below b5)
  have T_5 := hide (T_4.out.below b5)
  have X0_5 := hide (X0_4.out.below b5)
  have B_5 := hide (below_next B_4.out b5)
  have Gg_5 := hide rg5
  clear rg5
  clear b5 Dd_4 T_4 X0_4 B_4
  have ns5 : w3.heap.size < w5.heap.size := by omega
  obtain ⟨Tt0, Tt1⟩ := T_5.out
  go_wp2_with fail
  clear Tt0 Tt1
  refine (eqChunksResult_same q ra5 ra3 rc5 rc3 n D P _ ((Gg_5.out.below (below_alloc _ _))).rd ((Dd_5.out.below (below_alloc _ _))).rd hr HRP.out).mono ?_
  rintro e w6 ⟨rfl, b6⟩
  have n_6 : w5.heap.size < w6.heap.size := by have := b6.size; simp at this; omega
  have Dd_6 := hide ((Dd_5.out.below (below_alloc _ _)).below b6)
  have T_6 := hide ((T_5.out.below (below_alloc _ _)).below b6)
  have X0_6 := hide ((X0_5.out.below (below_alloc _ _)).below b6)
  have Gg_6 := hide ((Gg_5.out.below (below_alloc _ _)).below b6)
  have U_6 := hide ((Two.new w5 (.int .i64 q) (.slice ra5 n rc5) 27).below b6)
  have B_6 := hide (below_next (below_next B_5.out (below_alloc _ _)) b6)
  clear b6 Dd_5 T_5 X0_5 Gg_5 B_5
  go_wp2_with fail
  refine (toChunkS_any a0 cap0 n0 D0 P0 _ (R0.out.below B_6.out) hn0 HP0.out).mono ?_
  rintro e w7 ⟨g7, rfl, -, gg7, b7⟩
  have n_7 : w6.heap.size ≤ w7.heap.size := b7.size
  have Dd_7 := hide (Dd_6.out.below b7)
  have T_7 := hide (T_6.out.below b7)
  have X0_7 := hide (X0_6.out.below b7)
  have Gg_7 := hide (Gg_6.out.below b7)
  have U_7 := hide (U_6.out.below b7)
  have B_7 := hide (below_next B_6.out b7)
  have V_7 := hide (gg7.mono (B' := w6.heap.size) (by simp))
  clear gg7
  clear b7 Dd_6 T_6 X0_6 Gg_6 U_6 B_6
  go_wp2_with fail
  refine (eqChunkS_same _ _ _ _ n0 D0 P0 _ (X0_7.out).rd (V_7.out).rd hn0 HP0.out).mono ?_
  rintro e w8 ⟨rfl, b8⟩
  have n_8 : w7.heap.size ≤ w8.heap.size := b8.size
  have Dd_8 := hide (Dd_7.out.below b8)
  have T_8 := hide (T_7.out.below b8)
  have X0_8 := hide (X0_7.out.below b8)
  have Gg_8 := hide (Gg_7.out.below b8)
  have U_8 := hide (U_7.out.below b8)
  have V_8 := hide (V_7.out.below b8)
  have B_8 := hide (below_next B_7.out b8)
  clear b8 Dd_7 T_7 X0_7 Gg_7 U_7 V_7 B_7
  clear V_8
  go_wp2_with fail
  refine (markChunkS_any _ _ _ _ n0 D0 P0 ((1 : Int)) _ X0_8.out (by omega) (by omega) hn0 (by omega)).mono ?_
  rintro e w9 ⟨rfl, -, kk9⟩
  have n_9 : w8.heap.size ≤ w9.heap.size := kk9.size
  have Dd_9 := hide (Dd_8.out.kept kk9 (fun b h1 h2 hS => by omega))
  have T_9 := hide (T_8.out.kept kk9 (fun hS => by omega))
  have Gg_9 := hide (Gg_8.out.kept kk9 (fun b h1 h2 hS => by omega))
  have U_9 := hide (U_8.out.kept kk9 (fun hS => by omega))
  have B_9 := hide (B_8.out.trans (kk9.below B_8.out.size (fun k hk hS => by omega)))
  clear kk9 Dd_8 T_8 Gg_8 U_8 X0_8 B_8
  have hkk : ¬ ((1 : Int) + (n0 : Int) + (ahead P0 n0 : Int)) < 0 := by omega
  obtain ⟨Tt0, Tt1⟩ := T_9.out
  obtain ⟨Ut0, Ut1⟩ := U_9.out
  go_wp2_with fail
  clear Tt0 Tt1 Ut0 Ut1
  refine (eqChunksResult_same q ra5 ra3 rc5 rc3 n D P _ (Gg_9.out).rd (Dd_9.out).rd hr HRP.out).mono ?_
  rintro e w10 ⟨rfl, b10⟩
  have n_10 : w9.heap.size ≤ w10.heap.size := b10.size
  have Dd_10 := hide (Dd_9.out.below b10)
  have T_10 := hide (T_9.out.below b10)
  have Gg_10 := hide (Gg_9.out.below b10)
  have U_10 := hide (U_9.out.below b10)
  have B_10 := hide (below_next B_9.out b10)
  clear b10 Dd_9 T_9 Gg_9 U_9 B_9
  obtain ⟨Ut0, Ut1⟩ := U_10.out
  go_wp2_with fail
  clear Ut0 Ut1
  refine (markChunksResult_any q _ _ ra5 rc5 n D P 1 _ Gg_10.out (by decide) (by decide) hr hah).mono ?_
  rintro e w11 ⟨rfl, gm11, kk11⟩
  have n_11 : w10.heap.size ≤ w11.heap.size := kk11.size
  have Dd_11 := hide (Dd_10.out.kept kk11 (fun b h1 h2 hS => by omega))
  have T_11 := hide (T_10.out.kept kk11 (fun hS => by omega))
  have Gg_11 := hide (gm11)
  have U_11 := hide (U_10.out.kept kk11 (fun hS => by omega))
  have B_11 := hide (B_10.out.trans (kk11.below B_10.out.size (fun k hk hS => by omega)))
  clear kk11 Dd_10 T_10 Gg_10 U_10 B_10
  have hmv : ¬ ((1 : Int) + (n : Int) + (ahead P n : Int)) < 0 := by omega
  obtain ⟨Ut0, Ut1⟩ := U_11.out
  go_wp2_with fail
  clear Ut0 Ut1
  refine (heldChunksResult_any q ra5 rc5 n P 1 _ Gg_11.out.rd (by decide) (by decide) hr hah).mono ?_
  rintro e w12 ⟨rfl, b12⟩
  have n_12 : w11.heap.size ≤ w12.heap.size := b12.size
  have Dd_12 := hide (Dd_11.out.below b12)
  have T_12 := hide (T_11.out.below b12)
  have Gg_12 := hide (Gg_11.out.below b12)
  have U_12 := hide (U_11.out.below b12)
  have B_12 := hide (below_next B_11.out b12)
  clear b12 Dd_11 T_11 Gg_11 U_11 B_11
  go_wp2_with fail
  refine (toChunkS_any a0 cap0 n0 D0 P0 _ (R0.out.below B_12.out) hn0 HP0.out).mono ?_
  rintro e w13 ⟨g13, rfl, -, gg13, b13⟩
  have n_13 : w12.heap.size ≤ w13.heap.size := b13.size
  have Dd_13 := hide (Dd_12.out.below b13)
  have T_13 := hide (T_12.out.below b13)
  have Gg_13 := hide (Gg_12.out.below b13)
  have U_13 := hide (U_12.out.below b13)
  have B_13 := hide (below_next B_12.out b13)
  have Z0_13 := hide (gg13.mono (B' := w12.heap.size) (by simp))
  clear gg13
  clear b13 Dd_12 T_12 Gg_12 U_12 B_12
  go_wp2_with fail
  refine (HI.out _ _ (Z0_13.out.rd)).mono ?_
  rintro e w14 ⟨ra14, rc14, rfl, rg14, b14⟩
  have n_14 : w13.heap.size ≤ w14.heap.size := b14.size
  have Dd_14 := hide (Dd_13.out.below b14)
  have T_14 := hide (T_13.out.below b14)
  have Gg_14 := hide (Gg_13.out.below b14)
  have U_14 := hide (U_13.out.below b14)
  have Z0_14 := hide (Z0_13.out.below b14)
  have B_14 := hide (below_next B_13.out b14)
  have Hh_14 := hide rg14
  clear rg14
  clear b14 Dd_13 T_13 Gg_13 U_13 Z0_13 B_13
  clear Z0_14
  have nt14 : w3.heap.size < w14.heap.size := by omega
  have nu14 : w5.heap.size < w14.heap.size := by omega
  obtain ⟨Tt0, Tt1⟩ := T_14.out
  go_wp2_with fail
  clear Tt0 Tt1
  refine (eqChunksResult_same q ra14 ra3 rc14 rc3 n D P _ ((Hh_14.out.below (below_alloc _ _))).rd ((Dd_14.out.below (below_alloc _ _))).rd hr HRP.out).mono ?_
  rintro e w15 ⟨rfl, b15⟩
  have n_15 : w14.heap.size < w15.heap.size := by have := b15.size; simp at this; omega
  have Dd_15 := hide ((Dd_14.out.below (below_alloc _ _)).below b15)
  have T_15 := hide ((T_14.out.below (below_alloc _ _)).below b15)
  have Gg_15 := hide ((Gg_14.out.below (below_alloc _ _)).below b15)
  have U_15 := hide ((U_14.out.below (below_alloc _ _)).below b15)
  have Hh_15 := hide ((Hh_14.out.below (below_alloc _ _)).below b15)
  have Q_15 := hide ((Two.new w14 (.int .i64 q) (.slice ra14 n rc14) 27).below b15)
  have B_15 := hide (below_next (below_next B_14.out (below_alloc _ _)) b15)
  clear b15 Dd_14 T_14 Gg_14 U_14 Hh_14 B_14
  obtain ⟨Ut0, Ut1⟩ := U_15.out
  go_wp2_with fail
  clear Ut0 Ut1
  refine (heldChunksResult_any q ra5 rc5 n P 1 _ Gg_15.out.rd (by decide) (by decide) hr hah).mono ?_
  rintro e w16 ⟨rfl, b16⟩
  have n_16 : w15.heap.size ≤ w16.heap.size := b16.size
  have Dd_16 := hide (Dd_15.out.below b16)
  have T_16 := hide (T_15.out.below b16)
  have Gg_16 := hide (Gg_15.out.below b16)
  have U_16 := hide (U_15.out.below b16)
  have Hh_16 := hide (Hh_15.out.below b16)
  have Q_16 := hide (Q_15.out.below b16)
  have B_16 := hide (below_next B_15.out b16)
  clear b16 Dd_15 T_15 Gg_15 U_15 Hh_15 Q_15 B_15
  go_wp2_with fail
  go_ret
  exact ⟨rfl, B_16.out⟩


theorem ahead_8 {P : Nat → List Int} {n : Nat} (h : ∀ i, i < n → (P i).length ≤ 8) : ∀ k, k ≤ n → ahead P k ≤ 8 * k
  | 0, _ => Nat.le_refl _
  | k + 1, hk => by
    have h1 := ahead_8 h k (by omega)
    have h2 := h k (by omega)
    simp only [ahead]; omega

theorem walk (w : World) (a0 : Option Addr) (n cap0 : Nat) (D : Nat → Int) (P : Nat → List Int) (h : RdC w a0 D P n) (hmax : n ≤ maxLen) (hin : ∀ i, i < n → (Lit.int .i64 (D i)).wf = true ∧ U8 (P i) ∧ (P i).length ≤ maxLen) (d : Int) (hw : (Lit.int .i64 d).wf = true) :
    Calls Try.prog 5 #[.slice a0 n cap0, .int .i64 d] w fun e w' => e = .returned (.bool true) ∧ Below w.heap.size w w' := by
  unfold maxLen at hmax hin
  by_cases hfit : (n : Int) + (ahead P n : Int) ≤ 1048576
  · have hn : n ≤ 1048576 := by omega
    have hP : ∀ i, i < n → U8 (P i) ∧ (P i).length ≤ 1048576 := fun i hi => ⟨(hin i hi).2.1, by have := ahead_le P (i := i + 1) (j := n) (by omega); simp only [ahead] at this; omega⟩
    have hPl : ∀ i, i < n → (P i).length ≤ 1048576 := fun i hi => (hP i hi).2
    by_cases hF : fault D P n = 0
    · have hR := fault_zero hF
      have h40 := hR.many
      by_cases hd : ∃ i, i < n ∧ D i = d
      · obtain ⟨m, hm, hd⟩ := hd
        have hP8 : ∀ i, i < n - 1 → (del P m i).length ≤ 8 := fun i hi => by
          unfold del
          by_cases e1 : i < m
          · rw [if_pos e1]; exact (hR.len i (by omega)).2
          · rw [if_neg e1]; exact (hR.len (i + 1) (by omega)).2
        refine core w a0 n cap0 D P h hn hPl hfit d 0 (n - 1) (del D m) (del P m) (by omega) (fun i hi => by have := hP8 i hi; omega) (by have := ahead_8 hP8 (n - 1) (Nat.le_refl _); omega) (fun x u hr => ?_) (fun x u hr => implDrop_yes _ n n m D P d u hr hn hP hF hw hm hd)
        by_cases hlast : n = m + 1
        · subst hlast
          exact specDrop_last x 0 m D P d u hr (Nat.le_refl _) hn hP hF hm hd
        · exact specDrop_mid x 0 n n m D P d u hr (Nat.le_refl _) hn hP hF hm hd hlast
      · have hd' : ∀ j, j < n → D j ≠ d := fun j hj e => hd ⟨j, hj, e⟩
        exact core w a0 n cap0 D P h hn hPl hfit d 4 0 D P (Nat.zero_le _) (fun i hi => absurd hi (by omega)) (Nat.zero_le _) (fun x u hr => specDrop_no _ n n D P d u hr hn hP hF hd') (fun x u hr => implDrop_no _ n n D P d u hr hn hP hF hw hd')
    · exact core w a0 n cap0 D P h hn hPl hfit d (fault D P n) 0 D P (Nat.zero_le _) (fun i hi => absurd hi (by omega)) (Nat.zero_le _) (fun x u hr => specDrop_bad _ n n D P d u hr hn hP hF) (fun x u hr => implDrop_bad _ n n D P d u hr hn hP hF)
  · have HR := hide h
    have hP : ∀ i, i < n → ((P i).length : Int) ≤ 9223372036854775807 := fun i hi => by have := (hin i hi).2.2; omega
    have HP := hide hP
    clear h hP hin
    go_enter Try.func5, Try.ntmps5
    go_wp2_with fail
    refine (szChunkS_not a0 cap0 n D P 1048576 _ HR.out (by decide) (by decide) (by omega) HP.out (by omega)).mono ?_
    rintro e w1 ⟨rfl, b1⟩
    have B1 := hide b1
    clear b1
    go_wp2_with fail
    go_ret
    exact ⟨rfl, B1.out⟩
set_option maxRecDepth 100000 in
set_option maxHeartbeats 800000 in
theorem lifted (os : Os) (started : os.Started) (H : Type) (enc : TypeId × Value → H) :
    ReturnsInHanded {} Try.checked os 5 .any (Rows.fnExactDropChunkSpec.pre6 enc Try.prog Try.f5 Rows.fnExactDropChunkRow.domain false) (Rows.fnExactDropChunkSpec.post enc Try.prog Try.f5 false true false false) := by
  refine returnsInHanded_of_change (C := Try.checked) own started (by kernel_rfl) Try.func5
    (ChangeSpec.witness6 (enc := enc) (C := Try.checked) false ⟨#[], #[.slice none 0 0, .int .i64 0], []⟩ 8 (by kernel_rfl) (by kernel_rfl) (by kernel_rfl) (by kernel_rfl)) ?_
  intro W base args ds gs before hval0 hW hcnd _
  have hval : ∀ (j : Nat) t v, Try.f5.params[j]? = some t → args[j]? = some v → Value.okWide Try.prog W .any base t v := hval0
  have hW' := hW
  obtain ⟨p, q, hA0, hV, rfl, hfz, hnd⟩ := hW
  have hA : DataW.TrodAll enc Try.prog W 0 (fun _ => true) true Try.f5.params.toList args.toList ds p := hA0
  rw [Try.params5] at hA hval
  obtain ⟨v0, vs0, d0, ds0, p0, q0, hargs0, rfl, rfl, h0, r0⟩ := trodAll_cons hA
  obtain ⟨v1, vs1, d1, ds1, p1, q1, hargs1, rfl, rfl, h1, r1⟩ := trodAll_cons r0
  obtain ⟨rfl, rfl, rfl⟩ := trodAll_nil r1
  obtain rfl : args = #[v0, v1] := by cases args; simp_all
  obtain ⟨rfl, rfl⟩ := trodVars_none hV
  obtain ⟨a0, len0, cap0, rfl⟩ := okWide_slice Try.underlying22 (hval 0 22 v0 rfl rfl)
  have k0 := h0
  have lt0 : ∀ x ∈ p0, x.block < W.heap.size := by obtain ⟨m, hm⟩ := k0; exact DataW.trod_lt m _ _ _ hm
  obtain ⟨fuel0, hf0⟩ := h0
  obtain ⟨D0, P0, rd0, mx0, in0⟩ := rdC_of_trod (by simpa [Value.cells] using hf0)
  obtain ⟨a1, rfl, rfl, rfl, w1⟩ := open_int Try.underlying2 (hval 1 2 v1 rfl rfl) h1
  clear hA0 hval0
  refine (walk W a0 len0 cap0 D0 P0 rd0 mx0 in0 a1 w1).mono fun e W' ⟨he, bel⟩ => ?_
  subst he
  exact ⟨_, rfl, _, _, _, [], _, [], hW', trodAll_mk1 (shut_bool Try.underlying4 _), (trodAll_cons_mk (Below.trod laidOut (by kernel_rfl) (of_decide_eq_true (by kernel_rfl)) k0 bel lt0) (trodAll_cons_mk (shut_int Try.underlying2 w1) trodAll_mk0)), rfl, bel.frame _, fun h => by cases h⟩

theorem over : Rows.fnExactDropChunkRow.holds Try.pinned (OpenSpec.ofChange Rows.fnExactDropChunkSpec) :=
  OpenClaim.holds_of_wide 5 Try.f5 rfl rfl rfl rfl rfl rfl rfl ⟨rfl, rfl, rfl, rfl, rfl⟩ rfl rfl rfl rfl rfl (by kernel_rfl) Try.func5 (by kernel_rfl)
    (of_decide_eq_true (by kernel_rfl)) (by unfold Func.isWrapper; first | (rw [if_pos (by decide +kernel)]; kernel_rfl) | (rw [if_neg (by decide +kernel)]; exact ⟨rfl, rfl⟩))
    (fun os started H enc _ => lifted os started H enc)
end Go.Proofs.Ytdebojhginiihah.dropChunk
namespace Go.Proofs.Ytdebojhginiihah
theorem fnExactDropChunk_holds : Rows.FnExactDropChunkSaid := dropChunk.over
#print axioms fnExactDropChunk_holds
end Go.Proofs.Ytdebojhginiihah
