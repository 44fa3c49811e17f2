/-
  At every list of chunks and all bytes the law FnExactPutBytes returns true: PutBytes answers as its model does, leaves its arguments alone, and its answer owns its memory. No condition.
-/
import Derived.Test.YtdebojhginiihahManyC
import Derived.Test.YtdebojhginiihahChunksR
import Derived.Test.YtdebojhginiihahChunksIn
import Derived.ProofKit
import Derived.OpenShut
import Derived.ShutString
import Derived.ChangeOld
namespace Go.Proofs.Ytdebojhginiihah.putBytes
open Go.ChangeShapes Go.WideShapes Go.ChangeAt Go.RowKit
set_option linter.unusedVariables false

theorem own : ownKnob Try.prog.godebug = none := by kernel_rfl
theorem laidOut : laidOutB Try.prog = true := by kernel_rfl

set_option maxHeartbeats 8000000 in
theorem core (w : World) (a0 : Option Addr) (n0 cap0 : Nat) (D0 : Nat → Int) (P0 : Nat → List Int) (r0 : RdC w a0 D0 P0 n0) (hn0 : n0 ≤ 1048576) (hP0 : ∀ i, i < n0 → (P0 i).length ≤ 1048576) (hfit : (n0 : Int) + (ahead P0 n0 : Int) ≤ 1048576) (a1 : Option Addr) (cap1 : Nat) (zs1 : List Int) (r1 : Reads .u8 w a1 zs1) (hl1 : zs1.length ≤ 1048576) (q : Int) (n : Nat) (D : Nat → Int) (P : Nat → List Int) (hr : n ≤ 1048576) (hrP : ∀ i, i < n → (P i).length ≤ 1048576) (hah : ahead P n ≤ 1048576)
    (hs : (∀ (x0 : Option Addr) (k0 : Nat) (x1 : Option Addr) (k1 : Nat) (u : World), RdC u x0 D0 P0 n0 → Reads .u8 u x1 zs1 → zs1.length ≤ k1 → Calls Try.prog 28 #[.slice x0 n0 k0, .slice x1 zs1.length k1] u fun e w' => ∃ a' c', e = .returned (.agg #[.int .i64 q, .slice a' n c']) ∧ GC u.heap.size w'.heap.size w' (.slice a' n c') D P n ∧ Below u.heap.size u w'))
    (hi : (∀ (x0 : Option Addr) (k0 : Nat) (x1 : Option Addr) (k1 : Nat) (u : World), RdC u x0 D0 P0 n0 → Reads .u8 u x1 zs1 → zs1.length ≤ k1 → Calls Try.prog 29 #[.slice x0 n0 k0, .slice x1 zs1.length k1] u fun e w' => ∃ a' c', e = .returned (.agg #[.int .i64 q, .slice a' n c']) ∧ GC u.heap.size w'.heap.size w' (.slice a' n c') D P n ∧ Below u.heap.size u w')) :
    Calls Try.prog 6 #[.slice a0 n0 cap0, .slice a1 zs1.length cap1] w fun e w' => e = .returned (.bool true) ∧ Below w.heap.size w w' := by
  have R0 := hide r0
  clear r0
  have HP0 := hide hP0
  clear hP0
  have hb1 : ¬ (1048576 : Int) < (zs1.length : Int) := by omega
  have R1 := hide r1
  clear r1
  have hleft : ¬ ((1048576 : Int) - n0 - ahead P0 n0) < 0 := by omega
  have HS := hide hs
  have HI := hide hi
  clear hs hi
  have HRP := hide hrP
  clear hrP
  go_enter Try.func6, Try.ntmps6
  go_wp2_with fail
  refine (szChunkS_fits a0 cap0 n0 D0 P0 1048576 _ R0.out (by decide) hfit).mono ?_
  rintro e w1 ⟨rfl, b1⟩
  have n_1 : w.heap.size ≤ w1.heap.size := b1.size
  have B_1 := hide (below_next (Below.refl _ _) b1)
  clear b1
  go_wp2_with fail
  refine (toChunkS_any a0 cap0 n0 D0 P0 _ (R0.out.below B_1.out) hn0 HP0.out).mono ?_
  rintro e w2 ⟨g2, rfl, -, gg2, b2⟩
  have n_2 : w1.heap.size ≤ w2.heap.size := b2.size
  have B_2 := hide (below_next B_1.out b2)
  have Y0_2 := hide (gg2.mono (B' := w1.heap.size) (by simp))
  clear gg2
  clear b2 B_1
  go_wp2_with fail
  refine (toByteS_at a1 cap1 zs1 _ (R1.out.below B_2.out) hl1).mono ?_
  rintro e w3 ⟨g3, rfl, hgl3, hgu3, o3, b3⟩
  have n_3 : w2.heap.size ≤ w3.heap.size := b3.size
  have Y0_3 := hide (Y0_2.out.below b3)
  have B_3 := hide (below_next B_2.out b3)
  have hgl3 : w2.heap.size ≤ g3 := by simpa using hgl3
  have Y1_3 := hide o3
  clear o3
  clear b3 Y0_2 B_2
  go_wp2_with fail
  refine (HS.out _ _ _ _ _ (Y0_3.out.rd) (Y1_3.out.reads) (Nat.le_refl _)).mono ?_
  rintro e w4 ⟨ra4, rc4, rfl, rg4, b4⟩
  have n_4 : w3.heap.size ≤ w4.heap.size := b4.size
  have Y0_4 := hide (Y0_3.out.below b4)
  have Y1_4 := hide (Y1_3.out.below b4)
  have B_4 := hide (below_next B_3.out b4)
  have Dd_4 := hide rg4
  clear rg4
  clear b4 Y0_3 Y1_3 B_3
  clear Y0_4 Y1_4
  go_wp2_with fail
  refine (toChunkS_any a0 cap0 n0 D0 P0 _ (R0.out.below (below_next B_4.out (below_alloc _ _))) hn0 HP0.out).mono ?_
  rintro e w5 ⟨g5, rfl, -, gg5, b5⟩
  have n_5 : w4.heap.size < w5.heap.size := by have := b5.size; simp at this; omega
  have Dd_5 := hide ((Dd_4.out.below (below_alloc _ _)).below b5)
  have T_5 := hide ((Two.new w4 (.int .i64 q) (.slice ra4 n rc4) 27).below b5)
  have B_5 := hide (below_next (below_next B_4.out (below_alloc _ _)) b5)
  have X0_5 := hide (gg5.mono (B' := w4.heap.size + 1) (by simp))
  clear gg5
  clear b5 Dd_4 B_4
  go_wp2_with fail
  refine (toByteS_at a1 cap1 zs1 _ (R1.out.below B_5.out) hl1).mono ?_
  rintro e w6 ⟨g6, rfl, hgl6, hgu6, o6, b6⟩
  have n_6 : w5.heap.size ≤ w6.heap.size := b6.size
  have Dd_6 := hide (Dd_5.out.below b6)
  have T_6 := hide (T_5.out.below b6)
  have X0_6 := hide (X0_5.out.below b6)
  have B_6 := hide (below_next B_5.out b6)
  have hgl6 : w5.heap.size ≤ g6 := by simpa using hgl6
  have X1_6 := hide o6
  clear o6
  clear b6 Dd_5 T_5 X0_5 B_5
  go_wp2_with fail
  refine (HI.out _ _ _ _ _ (X0_6.out.rd) (X1_6.out.reads) (Nat.le_refl _)).mono ?_
  rintro e w7 ⟨ra7, rc7, rfl, rg7, b7⟩
  have n_7 : w6.heap.size ≤ w7.heap.size := b7.size
  have Dd_7 := hide (Dd_6.out.below b7)
  have T_7 := hide (T_6.out.below b7)
  have X0_7 := hide (X0_6.out.below b7)
  have X1_7 := hide (X1_6.out.below b7)
  have B_7 := hide (below_next B_6.out b7)
  have Gg_7 := hide rg7
  clear rg7
  clear b7 Dd_6 T_6 X0_6 X1_6 B_6
  have ns7 : w4.heap.size < w7.heap.size := by omega
  obtain ⟨Tt0, Tt1⟩ := T_7.out
  go_wp2_with fail
  clear Tt0 Tt1
  refine (eqChunksResult_same q ra7 ra4 rc7 rc4 n D P _ ((Gg_7.out.below (below_alloc _ _))).rd ((Dd_7.out.below (below_alloc _ _))).rd hr HRP.out).mono ?_
  rintro e w8 ⟨rfl, b8⟩
  have n_8 : w7.heap.size < w8.heap.size := by have := b8.size; simp at this; omega
  have Dd_8 := hide ((Dd_7.out.below (below_alloc _ _)).below b8)
  have T_8 := hide ((T_7.out.below (below_alloc _ _)).below b8)
  have X0_8 := hide ((X0_7.out.below (below_alloc _ _)).below b8)
  have X1_8 := hide ((X1_7.out.below (below_alloc _ _)).below b8)
  have Gg_8 := hide ((Gg_7.out.below (below_alloc _ _)).below b8)
  have U_8 := hide ((Two.new w7 (.int .i64 q) (.slice ra7 n rc7) 27).below b8)
  have B_8 := hide (below_next (below_next B_7.out (below_alloc _ _)) b8)
  clear b8 Dd_7 T_7 X0_7 X1_7 Gg_7 B_7
  go_wp2_with fail
  refine (toChunkS_any a0 cap0 n0 D0 P0 _ (R0.out.below B_8.out) hn0 HP0.out).mono ?_
  rintro e w9 ⟨g9, rfl, -, gg9, b9⟩
  have n_9 : w8.heap.size ≤ w9.heap.size := b9.size
  have Dd_9 := hide (Dd_8.out.below b9)
  have T_9 := hide (T_8.out.below b9)
  have X0_9 := hide (X0_8.out.below b9)
  have X1_9 := hide (X1_8.out.below b9)
  have Gg_9 := hide (Gg_8.out.below b9)
  have U_9 := hide (U_8.out.below b9)
  have B_9 := hide (below_next B_8.out b9)
  have V_9 := hide (gg9.mono (B' := w8.heap.size) (by simp))
  clear gg9
  clear b9 Dd_8 T_8 X0_8 X1_8 Gg_8 U_8 B_8
  go_wp2_with fail
  refine (eqChunkS_same _ _ _ _ n0 D0 P0 _ (X0_9.out).rd (V_9.out).rd hn0 HP0.out).mono ?_
  rintro e w10 ⟨rfl, b10⟩
  have n_10 : w9.heap.size ≤ w10.heap.size := b10.size
  have Dd_10 := hide (Dd_9.out.below b10)
  have T_10 := hide (T_9.out.below b10)
  have X0_10 := hide (X0_9.out.below b10)
  have X1_10 := hide (X1_9.out.below b10)
  have Gg_10 := hide (Gg_9.out.below b10)
  have U_10 := hide (U_9.out.below b10)
  have V_10 := hide (V_9.out.below b10)
  have B_10 := hide (below_next B_9.out b10)
  clear b10 Dd_9 T_9 X0_9 X1_9 Gg_9 U_9 V_9 B_9
  clear V_10
  go_wp2_with fail
  refine (toByteS_at a1 cap1 zs1 _ (R1.out.below B_10.out) hl1).mono ?_
  rintro e w11 ⟨g11, rfl, hgl11, hgu11, o11, b11⟩
  have n_11 : w10.heap.size ≤ w11.heap.size := b11.size
  have Dd_11 := hide (Dd_10.out.below b11)
  have T_11 := hide (T_10.out.below b11)
  have X0_11 := hide (X0_10.out.below b11)
  have X1_11 := hide (X1_10.out.below b11)
  have Gg_11 := hide (Gg_10.out.below b11)
  have U_11 := hide (U_10.out.below b11)
  have B_11 := hide (below_next B_10.out b11)
  have hgl11 : w10.heap.size ≤ g11 := by simpa using hgl11
  have V_11 := hide o11
  clear o11
  clear b11 Dd_10 T_10 X0_10 X1_10 Gg_10 U_10 B_10
  go_wp2_with fail
  refine (eqByteS_b _ _ _ _ zs1 _ (X1_11.out).reads (V_11.out).reads hl1).mono ?_
  rintro e w12 ⟨rfl, b12⟩
  have n_12 : w11.heap.size ≤ w12.heap.size := b12.size
  have Dd_12 := hide (Dd_11.out.below b12)
  have T_12 := hide (T_11.out.below b12)
  have X0_12 := hide (X0_11.out.below b12)
  have X1_12 := hide (X1_11.out.below b12)
  have Gg_12 := hide (Gg_11.out.below b12)
  have U_12 := hide (U_11.out.below b12)
  have V_12 := hide (V_11.out.below b12)
  have B_12 := hide (below_next B_11.out b12)
  clear b12 Dd_11 T_11 X0_11 X1_11 Gg_11 U_11 V_11 B_11
  clear V_12
  go_wp2_with fail
  refine (markChunkS_any _ _ _ _ n0 D0 P0 ((1 : Int)) _ X0_12.out (by omega) (by omega) hn0 (by omega)).mono ?_
  rintro e w13 ⟨rfl, -, kk13⟩
  have n_13 : w12.heap.size ≤ w13.heap.size := kk13.size
  have Dd_13 := hide (Dd_12.out.kept kk13 (fun b h1 h2 hS => by omega))
  have T_13 := hide (T_12.out.kept kk13 (fun hS => by omega))
  have X1_13 := hide (X1_12.out.kept kk13 (fun b hb hS => by simp only [blkOf, Option.map_some, Option.some.injEq] at hb; omega))
  have Gg_13 := hide (Gg_12.out.kept kk13 (fun b h1 h2 hS => by omega))
  have U_13 := hide (U_12.out.kept kk13 (fun hS => by omega))
  have B_13 := hide (B_12.out.trans (kk13.below B_12.out.size (fun k hk hS => by omega)))
  clear kk13 Dd_12 T_12 X1_12 Gg_12 U_12 X0_12 B_12
  go_wp2_with fail
  refine (markByteS_any _ _ zs1 ((1 : Int) + (n0 : Int) + (ahead P0 n0 : Int)) _ X1_13.out (by omega) (by omega) (by omega)).mono ?_
  rintro e w14 ⟨rfl, -, kk14, -⟩
  have hS14 : ∀ b, blkOf (some ⟨g6, 0, none⟩) b → b = g6 := fun b hb => by simpa [blkOf, eq_comm] using hb
  have n_14 : w13.heap.size ≤ w14.heap.size := kk14.size
  have Dd_14 := hide (Dd_13.out.kept kk14 (fun b h1 h2 hS => by have := hS14 _ hS; omega))
  have T_14 := hide (T_13.out.kept kk14 (fun hS => by have := hS14 _ hS; omega))
  have Gg_14 := hide (Gg_13.out.kept kk14 (fun b h1 h2 hS => by have := hS14 _ hS; omega))
  have U_14 := hide (U_13.out.kept kk14 (fun hS => by have := hS14 _ hS; omega))
  have B_14 := hide (B_13.out.trans (kk14.below B_13.out.size (fun k hk hS => by have := hS14 _ hS; omega)))
  clear kk14 Dd_13 T_13 Gg_13 U_13 X1_13 B_13
  have hkk : ¬ ((1 : Int) + (n0 : Int) + (ahead P0 n0 : Int) + (zs1.length : Int)) < 0 := by omega
  obtain ⟨Tt0, Tt1⟩ := T_14.out
  obtain ⟨Ut0, Ut1⟩ := U_14.out
  go_wp2_with fail
  clear Tt0 Tt1 Ut0 Ut1
  refine (eqChunksResult_same q ra7 ra4 rc7 rc4 n D P _ (Gg_14.out).rd (Dd_14.out).rd hr HRP.out).mono ?_
  rintro e w15 ⟨rfl, b15⟩
  have n_15 : w14.heap.size ≤ w15.heap.size := b15.size
  have Dd_15 := hide (Dd_14.out.below b15)
  have T_15 := hide (T_14.out.below b15)
  have Gg_15 := hide (Gg_14.out.below b15)
  have U_15 := hide (U_14.out.below b15)
  have B_15 := hide (below_next B_14.out b15)
  clear b15 Dd_14 T_14 Gg_14 U_14 B_14
  obtain ⟨Ut0, Ut1⟩ := U_15.out
  go_wp2_with fail
  clear Ut0 Ut1
  refine (markChunksResult_any q _ _ ra7 rc7 n D P 1 _ Gg_15.out (by decide) (by decide) hr hah).mono ?_
  rintro e w16 ⟨rfl, gm16, kk16⟩
  have n_16 : w15.heap.size ≤ w16.heap.size := kk16.size
  have Dd_16 := hide (Dd_15.out.kept kk16 (fun b h1 h2 hS => by omega))
  have T_16 := hide (T_15.out.kept kk16 (fun hS => by omega))
  have Gg_16 := hide (gm16)
  have U_16 := hide (U_15.out.kept kk16 (fun hS => by omega))
  have B_16 := hide (B_15.out.trans (kk16.below B_15.out.size (fun k hk hS => by omega)))
  clear kk16 Dd_15 T_15 Gg_15 U_15 B_15
  have hmv : ¬ ((1 : Int) + (n : Int) + (ahead P n : Int)) < 0 := by omega
  obtain ⟨Ut0, Ut1⟩ := U_16.out
  go_wp2_with fail
  clear Ut0 Ut1
  refine (heldChunksResult_any q ra7 rc7 n P 1 _ Gg_16.out.rd (by decide) (by decide) hr hah).mono ?_
  rintro e w17 ⟨rfl, b17⟩
  have n_17 : w16.heap.size ≤ w17.heap.size := b17.size
  have Dd_17 := hide (Dd_16.out.below b17)
  have T_17 := hide (T_16.out.below b17)
  have Gg_17 := hide (Gg_16.out.below b17)
  have U_17 := hide (U_16.out.below b17)
  have B_17 := hide (below_next B_16.out b17)
  clear b17 Dd_16 T_16 Gg_16 U_16 B_16
  go_wp2_with fail
  refine (toChunkS_any a0 cap0 n0 D0 P0 _ (R0.out.below B_17.out) hn0 HP0.out).mono ?_
  rintro e w18 ⟨g18, rfl, -, gg18, b18⟩
  have n_18 : w17.heap.size ≤ w18.heap.size := b18.size
  have Dd_18 := hide (Dd_17.out.below b18)
  have T_18 := hide (T_17.out.below b18)
  have Gg_18 := hide (Gg_17.out.below b18)
  have U_18 := hide (U_17.out.below b18)
  have B_18 := hide (below_next B_17.out b18)
  have Z0_18 := hide (gg18.mono (B' := w17.heap.size) (by simp))
  clear gg18
  clear b18 Dd_17 T_17 Gg_17 U_17 B_17
  go_wp2_with fail
  refine (toByteS_at a1 cap1 zs1 _ (R1.out.below B_18.out) hl1).mono ?_
  rintro e w19 ⟨g19, rfl, hgl19, hgu19, o19, b19⟩
  have n_19 : w18.heap.size ≤ w19.heap.size := b19.size
  have Dd_19 := hide (Dd_18.out.below b19)
  have T_19 := hide (T_18.out.below b19)
  have Gg_19 := hide (Gg_18.out.below b19)
  have U_19 := hide (U_18.out.below b19)
  have Z0_19 := hide (Z0_18.out.below b19)
  have B_19 := hide (below_next B_18.out b19)
  have hgl19 : w18.heap.size ≤ g19 := by simpa using hgl19
  have Z1_19 := hide o19
  clear o19
  clear b19 Dd_18 T_18 Gg_18 U_18 Z0_18 B_18
  go_wp2_with fail
  refine (HI.out _ _ _ _ _ (Z0_19.out.rd) (Z1_19.out.reads) (Nat.le_refl _)).mono ?_
  rintro e w20 ⟨ra20, rc20, rfl, rg20, b20⟩
  have n_20 : w19.heap.size ≤ w20.heap.size := b20.size
  have Dd_20 := hide (Dd_19.out.below b20)
  have T_20 := hide (T_19.out.below b20)
  have Gg_20 := hide (Gg_19.out.below b20)
  have U_20 := hide (U_19.out.below b20)
  have Z0_20 := hide (Z0_19.out.below b20)
  have Z1_20 := hide (Z1_19.out.below b20)
  have B_20 := hide (below_next B_19.out b20)
  have Hh_20 := hide rg20
  clear rg20
  clear b20 Dd_19 T_19 Gg_19 U_19 Z0_19 Z1_19 B_19
  clear Z0_20 Z1_20
  have nt20 : w4.heap.size < w20.heap.size := by omega
  have nu20 : w7.heap.size < w20.heap.size := by omega
  obtain ⟨Tt0, Tt1⟩ := T_20.out
  go_wp2_with fail
  clear Tt0 Tt1
  refine (eqChunksResult_same q ra20 ra4 rc20 rc4 n D P _ ((Hh_20.out.below (below_alloc _ _))).rd ((Dd_20.out.below (below_alloc _ _))).rd hr HRP.out).mono ?_
  rintro e w21 ⟨rfl, b21⟩
  have n_21 : w20.heap.size < w21.heap.size := by have := b21.size; simp at this; omega
  have Dd_21 := hide ((Dd_20.out.below (below_alloc _ _)).below b21)
  have T_21 := hide ((T_20.out.below (below_alloc _ _)).below b21)
  have Gg_21 := hide ((Gg_20.out.below (below_alloc _ _)).below b21)
  have U_21 := hide ((U_20.out.below (below_alloc _ _)).below b21)
  have Hh_21 := hide ((Hh_20.out.below (below_alloc _ _)).below b21)
  have Q_21 := hide ((Two.new w20 (.int .i64 q) (.slice ra20 n rc20) 27).below b21)
  have B_21 := hide (below_next (below_next B_20.out (below_alloc _ _)) b21)
  clear b21 Dd_20 T_20 Gg_20 U_20 Hh_20 B_20
  obtain ⟨Ut0, Ut1⟩ := U_21.out
  go_wp2_with fail
  clear Ut0 Ut1
  refine (heldChunksResult_any q ra7 rc7 n P 1 _ Gg_21.out.rd (by decide) (by decide) hr hah).mono ?_
  rintro e w22 ⟨rfl, b22⟩
  have n_22 : w21.heap.size ≤ w22.heap.size := b22.size
  have Dd_22 := hide (Dd_21.out.below b22)
  have T_22 := hide (T_21.out.below b22)
  have Gg_22 := hide (Gg_21.out.below b22)
  have U_22 := hide (U_21.out.below b22)
  have Hh_22 := hide (Hh_21.out.below b22)
  have Q_22 := hide (Q_21.out.below b22)
  have B_22 := hide (below_next B_21.out b22)
  clear b22 Dd_21 T_21 Gg_21 U_21 Hh_21 Q_21 B_21
  go_wp2_with fail
  go_ret
  exact ⟨rfl, B_22.out⟩


theorem ahead_8 {P : Nat → List Int} {n : Nat} (h : ∀ i, i < n → (P i).length ≤ 8) : ∀ k, k ≤ n → ahead P k ≤ 8 * k
  | 0, _ => Nat.le_refl _
  | k + 1, hk => by
    have h1 := ahead_8 h k (by omega)
    have h2 := h k (by omega)
    simp only [ahead]; omega

theorem walk (w : World) (a0 : Option Addr) (n cap0 : Nat) (D : Nat → Int) (P : Nat → List Int) (h : RdC w a0 D P n) (hmax : n ≤ maxLen) (hin : ∀ i, i < n → (Lit.int .i64 (D i)).wf = true ∧ U8 (P i) ∧ (P i).length ≤ maxLen)
    (a2 : Option Addr) (cap2 : Nat) (zs : List Int) (h2 : Reads .u8 w a2 zs) (hu : U8 zs) (hmx2 : zs.length ≤ maxLen) :
    Calls Try.prog 6 #[.slice a0 n cap0, .slice a2 zs.length cap2] w fun e w' => e = .returned (.bool true) ∧ Below w.heap.size w w' := by
  unfold maxLen at hmax hin hmx2
  by_cases hbig : 1048576 < zs.length
  · have hb : (1048576 : Int) < (zs.length : Int) := by omega
    go_enter Try.func6, Try.ntmps6
    go_wp2
    go_ret
    exact ⟨rfl, Below.refl _ _⟩
  · have hl : zs.length ≤ 1048576 := by omega
    by_cases hfit : (n : Int) + (ahead P n : Int) ≤ 1048576
    · have hn : n ≤ 1048576 := by omega
      have hP : ∀ i, i < n → U8 (P i) ∧ (P i).length ≤ 1048576 := fun i hi => ⟨(hin i hi).2.1, by have := ahead_le P (i := i + 1) (j := n) (by omega); simp only [ahead] at this; omega⟩
      have hPl : ∀ i, i < n → (P i).length ≤ 1048576 := fun i hi => (hP i hi).2
      by_cases hF : fault D P n = 0
      · have hR := fault_zero hF
        by_cases h24 : zs.length ≤ 24
        · obtain ⟨⟨q, t⟩, hres⟩ : ∃ r, resS (runS (D, P, n) (piece zs) (cut zs).length) = r := ⟨_, rfl⟩
          have hpc : ∀ j, j < (cut zs).length → 1 ≤ (piece zs j).length ∧ (piece zs j).length ≤ 8 := fun j hj => by rw [cut_length] at hj; rw [piece_length]; omega
          have hRt : t.2.2 = 0 ∨ Right t.1 t.2.1 t.2.2 := by
            cases ho : runS (D, P, n) (piece zs) (cut zs).length with
            | none => rw [ho] at hres; simp only [resS, Prod.mk.injEq] at hres; left; rw [← hres.2]
            | some t' => rw [ho] at hres; simp only [resS, Prod.mk.injEq] at hres; right; rw [← hres.2]; exact runS_right (s := (D, P, n)) hR hpc _ (Nat.le_refl _) t' ho
          have ht40 : t.2.2 ≤ 40 := by rcases hRt with h0 | h0; (omega); (exact h0.many)
          have ht8 : ∀ i, i < t.2.2 → (t.2.1 i).length ≤ 8 := fun i hi => by rcases hRt with h0 | h0; (omega); (exact (h0.len i hi).2)
          exact core w a0 n cap0 D P h hn hPl hfit a2 cap2 zs h2 hl q t.2.2 t.1 t.2.1 (by omega) (fun i hi => by have := ht8 i hi; omega) (by have := ahead_8 ht8 t.2.2 (Nat.le_refl _); omega) (fun x k y m u hr hr2 hc => specBytes_ok x k n D P y m zs u hr hn hP hF hr2 hu hc h24 q t hres) (fun x k y m u hr hr2 hc => implBytes_ok x k n D P y m zs u hr hn hP hF hr2 hu hc h24 q t hres)
        · exact core w a0 n cap0 D P h hn hPl hfit a2 cap2 zs h2 hl 2 0 D P (Nat.zero_le _) (fun i hi => absurd hi (by omega)) (Nat.zero_le _) (fun x k y m u hr hr2 _ => specBytes_big x k n D P y zs.length m u hr hn hP hF (by omega) hl) (fun x k y m u hr hr2 _ => implBytes_big x k n D P y m zs u hr hn hP hF (by omega) hl)
      · exact core w a0 n cap0 D P h hn hPl hfit a2 cap2 zs h2 hl (fault D P n) 0 D P (Nat.zero_le _) (fun i hi => absurd hi (by omega)) (Nat.zero_le _) (fun x k y m u hr hr2 _ => specBytes_bad x k n D P y zs.length m u hr hn hP hF) (fun x k y m u hr hr2 _ => implBytes_bad x k n D P y zs.length m u hr hn hP hF)
    · have HR := hide h
      have hP : ∀ i, i < n → ((P i).length : Int) ≤ 9223372036854775807 := fun i hi => by have := (hin i hi).2.2; omega
      have HP := hide hP
      have hb : ¬ (1048576 : Int) < (zs.length : Int) := by omega
      clear h hP hin h2 hu
      go_enter Try.func6, Try.ntmps6
      go_wp2_with fail
      refine (szChunkS_not a0 cap0 n D P 1048576 _ HR.out (by decide) (by decide) (by omega) HP.out (by omega)).mono ?_
      rintro e w1 ⟨rfl, b1⟩
      have B1 := hide b1
      clear b1
      go_wp2_with fail
      go_ret
      exact ⟨rfl, B1.out⟩
set_option maxRecDepth 100000 in
set_option maxHeartbeats 800000 in
theorem lifted (os : Os) (started : os.Started) (H : Type) (enc : TypeId × Value → H) :
    ReturnsInHanded {} Try.checked os 6 .any (Rows.fnExactPutBytesSpec.pre6 enc Try.prog Try.f6 Rows.fnExactPutBytesRow.domain false) (Rows.fnExactPutBytesSpec.post enc Try.prog Try.f6 false true false false) := by
  refine returnsInHanded_of_change (C := Try.checked) own started (by kernel_rfl) Try.func6
    (ChangeSpec.witness6 (enc := enc) (C := Try.checked) false ⟨#[], #[.slice none 0 0, .slice none 0 0], []⟩ 8 (by kernel_rfl) (by kernel_rfl) (by kernel_rfl) (by kernel_rfl)) ?_
  intro W base args ds gs before hval0 hW hcnd _
  have hval : ∀ (j : Nat) t v, Try.f6.params[j]? = some t → args[j]? = some v → Value.okWide Try.prog W .any base t v := hval0
  have hW' := hW
  obtain ⟨p, q, hA0, hV, rfl, hfz, hnd⟩ := hW
  have hA : DataW.TrodAll enc Try.prog W 0 (fun _ => true) true Try.f6.params.toList args.toList ds p := hA0
  rw [Try.params6] at hA hval
  obtain ⟨v0, vs0, d0, ds0, p0, q0, hargs0, rfl, rfl, h0, r0⟩ := trodAll_cons hA
  obtain ⟨v1, vs1, d1, ds1, p1, q1, hargs1, rfl, rfl, h1, r1⟩ := trodAll_cons r0
  obtain ⟨rfl, rfl, rfl⟩ := trodAll_nil r1
  obtain rfl : args = #[v0, v1] := by cases args; simp_all
  obtain ⟨rfl, rfl⟩ := trodVars_none hV
  obtain ⟨a0, len0, cap0, rfl⟩ := okWide_slice Try.underlying22 (hval 0 22 v0 rfl rfl)
  have k0 := h0
  have lt0 : ∀ x ∈ p0, x.block < W.heap.size := by obtain ⟨m, hm⟩ := k0; exact DataW.trod_lt m _ _ _ hm
  obtain ⟨fuel0, hf0⟩ := h0
  obtain ⟨D0, P0, rd0, mx0, in0⟩ := rdC_of_trod (by simpa [Value.cells] using hf0)
  obtain ⟨a1, len1, cap1, rfl⟩ := okWide_slice Try.underlying23 (hval 1 23 v1 rfl rfl)
  have k1 := h1
  have lt1 : ∀ x ∈ p1, x.block < W.heap.size := by obtain ⟨m, hm⟩ := k1; exact DataW.trod_lt m _ _ _ hm
  obtain ⟨fuel1, hf1⟩ := h1
  obtain ⟨zs1, hlen1, rd1, u1, mx1⟩ := bytes_of_trod (by simpa [Value.cells] using hf1)
  subst hlen1
  clear hA0 hval0
  refine (walk W a0 len0 cap0 D0 P0 rd0 mx0 in0 a1 cap1 zs1 rd1 u1 mx1).mono fun e W' ⟨he, bel⟩ => ?_
  subst he
  exact ⟨_, rfl, _, _, _, [], _, [], hW', trodAll_mk1 (shut_bool Try.underlying4 _), (trodAll_cons_mk (Below.trod laidOut (by kernel_rfl) (of_decide_eq_true (by kernel_rfl)) k0 bel lt0) (trodAll_cons_mk (Below.trod laidOut (by kernel_rfl) (of_decide_eq_true (by kernel_rfl)) k1 bel lt1) trodAll_mk0)), rfl, bel.frame _, fun h => by cases h⟩

theorem over : Rows.fnExactPutBytesRow.holds Try.pinned (OpenSpec.ofChange Rows.fnExactPutBytesSpec) :=
  OpenClaim.holds_of_wide 6 Try.f6 rfl rfl rfl rfl rfl rfl rfl ⟨rfl, rfl, rfl, rfl, rfl⟩ rfl rfl rfl rfl rfl (by kernel_rfl) Try.func6 (by kernel_rfl)
    (of_decide_eq_true (by kernel_rfl)) (by unfold Func.isWrapper; first | (rw [if_pos (by decide +kernel)]; kernel_rfl) | (rw [if_neg (by decide +kernel)]; exact ⟨rfl, rfl⟩))
    (fun os started H enc _ => lifted os started H enc)
end Go.Proofs.Ytdebojhginiihah.putBytes
namespace Go.Proofs.Ytdebojhginiihah
theorem fnExactPutBytes_holds : Rows.FnExactPutBytesSaid := putBytes.over
#print axioms fnExactPutBytes_holds
end Go.Proofs.Ytdebojhginiihah
