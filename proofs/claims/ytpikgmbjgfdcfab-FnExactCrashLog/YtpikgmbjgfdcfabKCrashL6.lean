/-
  At every log and every number the law FnExactCrashLog returns true: CrashLog answers as its model does, leaves its arguments alone, and its answer owns its memory. No condition.
-/
import Derived.Test.YtpikgmbjgfdcfabKCrashL3
import Derived.Test.YtpikgmbjgfdcfabKCrashL5
import Derived.ProofKit
import Derived.OpenShut
import Derived.ShutString
import Derived.ChangeOld
namespace Go.Proofs.Ytpikgmbjgfdcfab.crashLog
open Go.ChangeShapes Go.WideShapes Go.ChangeAt Go.RowKit
set_option linter.unusedVariables false

theorem own : ownKnob Try.prog.godebug = none := by kernel_rfl
theorem laidOut : laidOutB Try.prog = true := by kernel_rfl
theorem box4_kept {P : Nat → Prop} {w w' : World} {b : Nat} {u0 u1 u2 u3 : Value} (h : Box4r w b u0 u1 u2 u3) (hk : Kept P w w') (hn : ¬ P b) : Box4r w' b u0 u1 u2 u3 := by
  obtain ⟨⟨h0, h1, h2, h3⟩, hf⟩ := h
  have hb : b < w.heap.size := World.block_lt_of_cell? w ⟨b, 0, none⟩ h0
  exact ⟨⟨(hk.cell (p := ⟨b, 0, none⟩) hb hn).trans h0, (hk.cell (p := ⟨b, 1, none⟩) hb hn).trans h1, (hk.cell (p := ⟨b, 2, none⟩) hb hn).trans h2, (hk.cell (p := ⟨b, 3, none⟩) hb hn).trans h3⟩, fun i => (hk.frozen (p := ⟨b, i, none⟩) hb hn).trans (hf i)⟩

set_option maxRecDepth 100000 in
set_option maxHeartbeats 16000000 in
theorem core (w : World) (sa : Option Addr) (sc : Nat) (S : List Int) (la : Option Addr) (lc : Nat) (L : List Int) (hs : Reads .u8 w sa S) (hl : Reads .u8 w la L) (us : U8 S) (ul : U8 L) (hfit : (S.length : Int) + L.length ≤ 1048576) (d : Int) (q k : Int) (S' L' : List Int) (hS' : S'.length ≤ 1048576) (hL' : L'.length ≤ 1048576)
    (hsp : (∀ (x1 x2 : Nat) (u : World), Below w.heap.size w u → RdL' u (some ⟨x1, 0, none⟩) S.length S (some ⟨x2, 0, none⟩) L.length L → Calls Try.prog 5 #[.agg #[.slice (some ⟨x1, 0, none⟩) S.length S.length, .slice (some ⟨x2, 0, none⟩) L.length L.length], .int .i64 d] u (ResG' q k S' L' u)))
    (him : (∀ (x1 x2 : Nat) (u : World), Below w.heap.size w u → RdL' u (some ⟨x1, 0, none⟩) S.length S (some ⟨x2, 0, none⟩) L.length L → Calls Try.prog 7 #[.agg #[.slice (some ⟨x1, 0, none⟩) S.length S.length, .slice (some ⟨x2, 0, none⟩) L.length L.length], .int .i64 d] u (ResG' q k S' L' u))) :
    Calls Try.prog 3 #[.agg #[.slice sa S.length sc, .slice la L.length lc], .int .i64 d] w fun e w' => e = .returned (.bool true) ∧ Below w.heap.size w w' := by
  have B_0 := hide (below_alloc w (.cells #[.slice sa S.length sc, .slice la L.length lc] 24))
  have PA_0 := hide (Two.new w (.slice sa S.length sc) (.slice la L.length lc) 24)
  have hS : S.length ≤ 1048576 := by omega
  have hL : L.length ≤ 1048576 := by omega
  have HS0 := hide (szLog_fits sa S.length sc la L.length lc (w.alloc (.cells #[.slice sa S.length sc, .slice la L.length lc] 24)) hfit)
  have hleft : ¬ (1048576 : Int) - S.length - L.length < 0 := by omega
  have HT := hide (fun (u : World) (hu : Below w.heap.size w u) => toLog_any sa sc S la lc L u (hs.below hu) (hl.below hu) hS hL)
  have HSp := hide hsp
  have HIm := hide him
  have HUS := hide us
  have HUL := hide ul
  clear hs hl us ul hsp him hfit
  go_enter Try.func3, Try.ntmps3
  obtain ⟨pt0, pt1⟩ := PA_0.out
  go_wp2_with fail
  clear pt0 pt1
  have HZW : Hid (w.heap.size + 1 ≤ (w.alloc (.cells #[.slice sa S.length sc, .slice la L.length lc] 24)).heap.size) := hide (by simp)
  generalize w.alloc (.cells #[.slice sa S.length sc, .slice la L.length lc] 24) = W0 at *
  refine HS0.out.mono ?_
  rintro e w1 ⟨rfl, b1⟩
  clear HS0
  have z_1 : W0.heap.size ≤ w1.heap.size := b1.size
  have PA_1 := hide (PA_0.out.below b1)
  have B_1 := hide (below_next B_0.out b1)
  clear PA_0 B_0 b1
  obtain ⟨PAt0, PAt1⟩ := PA_1.out
  go_wp2_with fail
  clear PAt0 PAt1
  refine (HT.out w1 B_1.out).mono ?_
  rintro e w2 ⟨y1, y2, rfl, hgw2, hhw2, hiw2, gw2, bw2⟩
  have z_2 : w1.heap.size ≤ w2.heap.size := bw2.size
  have PA_2 := hide (PA_1.out.below bw2)
  have B_2 := hide (below_next B_1.out bw2)
  have Y_2 := hide gw2
  clear gw2
  clear PA_1 B_1 bw2
  go_wp2_with fail
  refine (HSp.out y1 y2 w2 B_2.out (Y_2.out.rd HUS.out HUL.out hS hL)).mono ?_
  rintro e w3 hresw3
  obtain ⟨w3a1, w3c1, w3a2, w3c2, rfl, gw3, bw3⟩ := hresw3.gl
  clear hresw3
  have z_3 : w2.heap.size ≤ w3.heap.size := bw3.size
  have PA_3 := hide (PA_2.out.below bw3)
  have Y_3 := hide (Y_2.out.below bw3)
  have B_3 := hide (below_next B_2.out bw3)
  have Dd_3 := hide gw3
  clear gw3
  clear PA_2 Y_2 B_2 bw3
  clear Y_3
  have ab4 := hide (below_alloc w3 (.cells #[.int .i64 q, .int .i64 k, .slice w3a1 S'.length w3c1, .slice w3a2 L'.length w3c2] 28))
  have PA_4 := hide (PA_3.out.below ab4.out)
  have Dd_4 := hide (Dd_3.out.below ab4.out)
  have T_4 := hide (Box4r.new w3 (.int .i64 q) (.int .i64 k) (.slice w3a1 S'.length w3c1) (.slice w3a2 L'.length w3c2) 28)
  have B_4 := hide (below_next B_3.out ab4.out)
  have zb_4 : (w3.alloc (.cells #[.int .i64 q, .int .i64 k, .slice w3a1 S'.length w3c1, .slice w3a2 L'.length w3c2] 28)).heap.size = w3.heap.size + 1 := by simp
  have ZB_4 := hide zb_4
  clear zb_4 PA_3 Dd_3 B_3 ab4
  obtain ⟨PAt0, PAt1⟩ := PA_4.out
  go_wp2_with fail
  clear PAt0 PAt1
  generalize w3.alloc (.cells #[.int .i64 q, .int .i64 k, .slice w3a1 S'.length w3c1, .slice w3a2 L'.length w3c2] 28) = V4 at *
  have zz_4 : w3.heap.size + 1 ≤ V4.heap.size := by have := ZB_4.out; omega
  clear ZB_4
  refine (HT.out V4 B_4.out).mono ?_
  rintro e w4 ⟨x1, x2, rfl, hgw4, hhw4, hiw4, gw4, bw4⟩
  have z_5 : V4.heap.size ≤ w4.heap.size := bw4.size
  have PA_5 := hide (PA_4.out.below bw4)
  have Dd_5 := hide (Dd_4.out.below bw4)
  have T_5 := hide (T_4.out.below bw4)
  have B_5 := hide (below_next B_4.out bw4)
  have X_5 := hide gw4
  clear gw4
  clear PA_4 Dd_4 T_4 B_4 bw4
  have ab6 := hide (below_alloc w4 (.cells #[.slice (some ⟨x1, 0, none⟩) S.length S.length, .slice (some ⟨x2, 0, none⟩) L.length L.length] 26))
  have PA_6 := hide (PA_5.out.below ab6.out)
  have Dd_6 := hide (Dd_5.out.below ab6.out)
  have T_6 := hide (T_5.out.below ab6.out)
  have X_6 := hide (X_5.out.below ab6.out)
  have XX_6 := hide (Two.new w4 (.slice (some ⟨x1, 0, none⟩) S.length S.length) (.slice (some ⟨x2, 0, none⟩) L.length L.length) 26)
  have B_6 := hide (below_next B_5.out ab6.out)
  have zb_6 : (w4.alloc (.cells #[.slice (some ⟨x1, 0, none⟩) S.length S.length, .slice (some ⟨x2, 0, none⟩) L.length L.length] 26)).heap.size = w4.heap.size + 1 := by simp
  have ZB_6 := hide zb_6
  clear zb_6 PA_5 Dd_5 T_5 X_5 B_5 ab6
  obtain ⟨XXt0, XXt1⟩ := XX_6.out
  go_wp2_with fail
  clear XXt0 XXt1
  generalize w4.alloc (.cells #[.slice (some ⟨x1, 0, none⟩) S.length S.length, .slice (some ⟨x2, 0, none⟩) L.length L.length] 26) = V6 at *
  have zz_6 : w4.heap.size + 1 ≤ V6.heap.size := by have := ZB_6.out; omega
  clear ZB_6
  refine (HIm.out x1 x2 V6 B_6.out (X_6.out.rd HUS.out HUL.out hS hL)).mono ?_
  rintro e w6 hresw6
  obtain ⟨w6a1, w6c1, w6a2, w6c2, rfl, gw6, bw6⟩ := hresw6.gl
  clear hresw6
  have z_7 : V6.heap.size ≤ w6.heap.size := bw6.size
  have PA_7 := hide (PA_6.out.below bw6)
  have Dd_7 := hide (Dd_6.out.below bw6)
  have T_7 := hide (T_6.out.below bw6)
  have X_7 := hide (X_6.out.below bw6)
  have XX_7 := hide (XX_6.out.below bw6)
  have B_7 := hide (below_next B_6.out bw6)
  have Gg_7 := hide gw6
  clear gw6
  clear PA_6 Dd_6 T_6 X_6 XX_6 B_6 bw6
  have ab8 := hide (below_alloc w6 (.cells #[.int .i64 q, .int .i64 k, .slice w6a1 S'.length w6c1, .slice w6a2 L'.length w6c2] 28))
  have PA_8 := hide (PA_7.out.below ab8.out)
  have Dd_8 := hide (Dd_7.out.below ab8.out)
  have T_8 := hide (T_7.out.below ab8.out)
  have X_8 := hide (X_7.out.below ab8.out)
  have XX_8 := hide (XX_7.out.below ab8.out)
  have Gg_8 := hide (Gg_7.out.below ab8.out)
  have U_8 := hide (Box4r.new w6 (.int .i64 q) (.int .i64 k) (.slice w6a1 S'.length w6c1) (.slice w6a2 L'.length w6c2) 28)
  have B_8 := hide (below_next B_7.out ab8.out)
  have zb_8 : (w6.alloc (.cells #[.int .i64 q, .int .i64 k, .slice w6a1 S'.length w6c1, .slice w6a2 L'.length w6c2] 28)).heap.size = w6.heap.size + 1 := by simp
  have ZB_8 := hide zb_8
  clear zb_8 PA_7 Dd_7 T_7 X_7 XX_7 Gg_7 B_7 ab8
  obtain ⟨⟨Tt0, Tt1, Tt2, Tt3⟩, -⟩ := T_8.out
  obtain ⟨⟨Ut0, Ut1, Ut2, Ut3⟩, -⟩ := U_8.out
  go_wp2_with fail
  clear Tt0 Tt1 Tt2 Tt3 Ut0 Ut1 Ut2 Ut3
  generalize w6.alloc (.cells #[.int .i64 q, .int .i64 k, .slice w6a1 S'.length w6c1, .slice w6a2 L'.length w6c2] 28) = V8 at *
  have zz_8 : w6.heap.size + 1 ≤ V8.heap.size := by have := ZB_8.out; omega
  clear ZB_8
  refine (eqLogResult_same q k w6a1 w3a1 w6c1 w3c1 S' w6a2 w3a2 w6c2 w3c2 L' V8 (Gg_8.out.rd rfl rfl).1 (Dd_8.out.rd rfl rfl).1 (Gg_8.out.rd rfl rfl).2 (Dd_8.out.rd rfl rfl).2 hS' hL').mono ?_
  rintro e e8 ⟨rfl, be8⟩
  have z_9 : V8.heap.size ≤ e8.heap.size := be8.size
  have PA_9 := hide (PA_8.out.below be8)
  have Dd_9 := hide (Dd_8.out.below be8)
  have T_9 := hide (T_8.out.below be8)
  have X_9 := hide (X_8.out.below be8)
  have XX_9 := hide (XX_8.out.below be8)
  have Gg_9 := hide (Gg_8.out.below be8)
  have U_9 := hide (U_8.out.below be8)
  have B_9 := hide (below_next B_8.out be8)
  clear PA_8 Dd_8 T_8 X_8 XX_8 Gg_8 U_8 B_8 be8
  have KB : Hid (∀ u : World, Below e8.heap.size e8 u → (u.cell? ⟨w4.heap.size, 0, none⟩ = some (.slice (some ⟨x1, 0, none⟩) S.length S.length) ∧ u.cell? ⟨w4.heap.size, 1, none⟩ = some (.slice (some ⟨x2, 0, none⟩) L.length L.length)) ∧ u.cell? ⟨w.heap.size, 0, none⟩ = some (.slice sa S.length sc) ∧ u.cell? ⟨w.heap.size, 1, none⟩ = some (.slice la L.length lc)) := hide (fun u hu => ⟨XX_9.out.below hu, PA_9.out.below hu⟩)
  have HEQ : Hid (∀ (k1 k2 : Nat) (u : World), OL u k1 k2 S L → Below e8.heap.size e8 u → Calls Try.prog 9 #[.agg #[.slice (some ⟨x1, 0, none⟩) S.length S.length, .slice (some ⟨x2, 0, none⟩) L.length L.length], .agg #[.slice (some ⟨k1, 0, none⟩) S.length S.length, .slice (some ⟨k2, 0, none⟩) L.length L.length]] u fun e w' => e = .returned (.bool true) ∧ Below u.heap.size u w') := hide (fun k1 k2 u hr hu => eqLog_same _ _ _ _ S _ _ _ _ L u (X_9.out.below hu).1.reads hr.1.reads (X_9.out.below hu).2.reads hr.2.reads hS hL)
  go_wp2_with fail
  obtain ⟨⟨q0, q1⟩, q3, q4⟩ := KB.out e8 (Below.refl _ _)
  go_region_held3 (fun u => (u.cell? ⟨w4.heap.size, 0, none⟩ = some (.slice (some ⟨x1, 0, none⟩) S.length S.length) ∧ u.cell? ⟨w4.heap.size, 1, none⟩ = some (.slice (some ⟨x2, 0, none⟩) L.length L.length)) ∧ u.cell? ⟨w.heap.size, 0, none⟩ = some (.slice sa S.length sc) ∧ u.cell? ⟨w.heap.size, 1, none⟩ = some (.slice la L.length lc)) (first | exact KB.out _ BB2.out | exact KB.out _ BB1.out | exact KB.out _ (Below.refl _ _).drew | go_keep)
    ((first
      | (go_at_call 6; refine (HT.out _ (below_next B_9.out (Below.refl _ _).drew)).mono ?_; rintro r wr1 ⟨k1, k2, rfl, -, -, -, hr6, hb6⟩; have BB1 := hide ((Below.refl e8.heap.size e8).drew.trans hb6); have R6 := hide hr6; clear hr6 hb6)
      | (go_at_call 9; refine (HEQ.out k1 k2 _ R6.out BB1.out).mono ?_; rintro r wr2 ⟨rfl, hb7⟩; have BB2 := hide (below_next BB1.out hb7); clear hb7)))
  clear q0 q1 q3 q4 KB HEQ R6 BB1
  have bwr2 := BB2.out
  clear BB2
  have z_10 : e8.heap.size ≤ wr2.heap.size := bwr2.size
  have PA_10 := hide (PA_9.out.below bwr2)
  have Dd_10 := hide (Dd_9.out.below bwr2)
  have T_10 := hide (T_9.out.below bwr2)
  have X_10 := hide (X_9.out.below bwr2)
  have XX_10 := hide (XX_9.out.below bwr2)
  have Gg_10 := hide (Gg_9.out.below bwr2)
  have U_10 := hide (U_9.out.below bwr2)
  have B_10 := hide (below_next B_9.out bwr2)
  clear PA_9 Dd_9 T_9 X_9 XX_9 Gg_9 U_9 B_9 bwr2
  obtain ⟨XXt0, XXt1⟩ := XX_10.out
  go_wp2_with fail
  clear XXt0 XXt1
  have HM := hide (markLog_own x1 x2 S.length L.length S L 1 wr2 X_10.out (by omega) (by omega) (by decide) (by decide) hS hL)
  refine HM.out.mono ?_
  rintro e w9 ⟨rfl, k9⟩
  clear HM
  have hzw : w.heap.size + 1 ≤ W0.heap.size := HZW.out
  have z_11 : wr2.heap.size ≤ w9.heap.size := k9.size
  have PA_11 := hide (PA_10.out.kept k9 (fun hS => by omega))
  have Dd_11 := hide (Dd_10.out.kept k9 (fun b h1 h2 hS => by omega))
  have T_11 := hide (box4_kept T_10.out k9 (fun hS => by omega))
  have Gg_11 := hide (Gg_10.out.kept k9 (fun b h1 h2 hS => by omega))
  have U_11 := hide (box4_kept U_10.out k9 (fun hS => by omega))
  have B_11 := hide (B_10.out.trans (k9.below B_10.out.size (fun j hj hS => by omega)))
  clear k9 PA_10 Dd_10 T_10 Gg_10 U_10 X_10 XX_10 B_10
  have hkk : ¬ ((1 : Int) + S.length + L.length) < 0 := by omega
  have hkd : decide (((1 : Int) + S.length + L.length) < 0) = false := decide_eq_false hkk
  obtain ⟨⟨Tt0, Tt1, Tt2, Tt3⟩, -⟩ := T_11.out
  obtain ⟨⟨Ut0, Ut1, Ut2, Ut3⟩, -⟩ := U_11.out
  go_wp2_with fail
  clear Tt0 Tt1 Tt2 Tt3 Ut0 Ut1 Ut2 Ut3
  refine (eqLogResult_same q k w6a1 w3a1 w6c1 w3c1 S' w6a2 w3a2 w6c2 w3c2 L' w9 (Gg_11.out.rd rfl rfl).1 (Dd_11.out.rd rfl rfl).1 (Gg_11.out.rd rfl rfl).2 (Dd_11.out.rd rfl rfl).2 hS' hL').mono ?_
  rintro e e11 ⟨rfl, be11⟩
  have z_12 : w9.heap.size ≤ e11.heap.size := be11.size
  have PA_12 := hide (PA_11.out.below be11)
  have Dd_12 := hide (Dd_11.out.below be11)
  have T_12 := hide (T_11.out.below be11)
  have Gg_12 := hide (Gg_11.out.below be11)
  have U_12 := hide (U_11.out.below be11)
  have B_12 := hide (below_next B_11.out be11)
  clear PA_11 Dd_11 T_11 Gg_11 U_11 B_11 be11
  obtain ⟨⟨Ut0, Ut1, Ut2, Ut3⟩, -⟩ := U_12.out
  go_wp2_with fail
  clear Ut0 Ut1 Ut2 Ut3
  refine (markLogResult_any q k _ _ w6a1 w6a2 w6c1 w6c2 S' L' e11 Gg_12.out hS' hL').mono ?_
  rintro e w11 ⟨rfl, g11, k11⟩
  have z_13 : e11.heap.size ≤ w11.heap.size := k11.size
  have PA_13 := hide (PA_12.out.kept k11 (fun hS => by omega))
  have Dd_13 := hide (Dd_12.out.kept k11 (fun b h1 h2 hS => by omega))
  have T_13 := hide (box4_kept T_12.out k11 (fun hS => by omega))
  have Gg_13 := hide (g11)
  have U_13 := hide (box4_kept U_12.out k11 (fun hS => by omega))
  have B_13 := hide (B_12.out.trans (k11.below B_12.out.size (fun j hj hS => by omega)))
  clear k11 PA_12 Dd_12 T_12 Gg_12 U_12 B_12
  clear g11
  have hmv : ¬ ((1 : Int) + S'.length + L'.length) < 0 := by omega
  obtain ⟨⟨Ut0, Ut1, Ut2, Ut3⟩, -⟩ := U_13.out
  go_wp2_with fail
  clear Ut0 Ut1 Ut2 Ut3
  refine (heldLogResult_any q k w6a1 w6a2 w6c1 w6c2 S'.length L'.length w11 (Gg_13.out.rd (marks_length _ _).symm (marks_length _ _).symm).1 (Gg_13.out.rd (marks_length _ _).symm (marks_length _ _).symm).2 hS' hL').mono ?_
  rintro e h13 ⟨rfl, bh13⟩
  have z_14 : w11.heap.size ≤ h13.heap.size := bh13.size
  have PA_14 := hide (PA_13.out.below bh13)
  have Dd_14 := hide (Dd_13.out.below bh13)
  have T_14 := hide (T_13.out.below bh13)
  have Gg_14 := hide (Gg_13.out.below bh13)
  have U_14 := hide (U_13.out.below bh13)
  have B_14 := hide (below_next B_13.out bh13)
  clear PA_13 Dd_13 T_13 Gg_13 U_13 B_13 bh13
  obtain ⟨PAt0, PAt1⟩ := PA_14.out
  go_wp2_with fail
  clear PAt0 PAt1
  refine (HT.out h13 B_14.out).mono ?_
  rintro e w13 ⟨z1, z2, rfl, hgw13, hhw13, hiw13, gw13, bw13⟩
  have z_15 : h13.heap.size ≤ w13.heap.size := bw13.size
  have PA_15 := hide (PA_14.out.below bw13)
  have Dd_15 := hide (Dd_14.out.below bw13)
  have T_15 := hide (T_14.out.below bw13)
  have Gg_15 := hide (Gg_14.out.below bw13)
  have U_15 := hide (U_14.out.below bw13)
  have B_15 := hide (below_next B_14.out bw13)
  have Z_15 := hide gw13
  clear gw13
  clear PA_14 Dd_14 T_14 Gg_14 U_14 B_14 bw13
  go_wp2_with fail
  refine (HIm.out z1 z2 w13 B_15.out (Z_15.out.rd HUS.out HUL.out hS hL)).mono ?_
  rintro e w14 hresw14
  obtain ⟨w14a1, w14c1, w14a2, w14c2, rfl, gw14, bw14⟩ := hresw14.gl
  clear hresw14
  have z_16 : w13.heap.size ≤ w14.heap.size := bw14.size
  have PA_16 := hide (PA_15.out.below bw14)
  have Dd_16 := hide (Dd_15.out.below bw14)
  have T_16 := hide (T_15.out.below bw14)
  have Gg_16 := hide (Gg_15.out.below bw14)
  have U_16 := hide (U_15.out.below bw14)
  have Z_16 := hide (Z_15.out.below bw14)
  have B_16 := hide (below_next B_15.out bw14)
  have Hh_16 := hide gw14
  clear gw14
  clear PA_15 Dd_15 T_15 Gg_15 U_15 Z_15 B_15 bw14
  clear Z_16
  have ab17 := hide (below_alloc w14 (.cells #[.int .i64 q, .int .i64 k, .slice w14a1 S'.length w14c1, .slice w14a2 L'.length w14c2] 28))
  have PA_17 := hide (PA_16.out.below ab17.out)
  have Dd_17 := hide (Dd_16.out.below ab17.out)
  have T_17 := hide (T_16.out.below ab17.out)
  have Gg_17 := hide (Gg_16.out.below ab17.out)
  have U_17 := hide (U_16.out.below ab17.out)
  have Hh_17 := hide (Hh_16.out.below ab17.out)
  have Q_17 := hide (Box4r.new w14 (.int .i64 q) (.int .i64 k) (.slice w14a1 S'.length w14c1) (.slice w14a2 L'.length w14c2) 28)
  have B_17 := hide (below_next B_16.out ab17.out)
  have zb_17 : (w14.alloc (.cells #[.int .i64 q, .int .i64 k, .slice w14a1 S'.length w14c1, .slice w14a2 L'.length w14c2] 28)).heap.size = w14.heap.size + 1 := by simp
  have ZB_17 := hide zb_17
  clear zb_17 PA_16 Dd_16 T_16 Gg_16 U_16 Hh_16 B_16 ab17
  obtain ⟨⟨Tt0, Tt1, Tt2, Tt3⟩, -⟩ := T_17.out
  obtain ⟨⟨Qt0, Qt1, Qt2, Qt3⟩, -⟩ := Q_17.out
  go_wp2_with fail
  clear Tt0 Tt1 Tt2 Tt3 Qt0 Qt1 Qt2 Qt3
  generalize w14.alloc (.cells #[.int .i64 q, .int .i64 k, .slice w14a1 S'.length w14c1, .slice w14a2 L'.length w14c2] 28) = V17 at *
  have zz_17 : w14.heap.size + 1 ≤ V17.heap.size := by have := ZB_17.out; omega
  clear ZB_17
  refine (eqLogResult_same q k w14a1 w3a1 w14c1 w3c1 S' w14a2 w3a2 w14c2 w3c2 L' V17 (Hh_17.out.rd rfl rfl).1 (Dd_17.out.rd rfl rfl).1 (Hh_17.out.rd rfl rfl).2 (Dd_17.out.rd rfl rfl).2 hS' hL').mono ?_
  rintro e e17 ⟨rfl, be17⟩
  have z_18 : V17.heap.size ≤ e17.heap.size := be17.size
  have PA_18 := hide (PA_17.out.below be17)
  have Dd_18 := hide (Dd_17.out.below be17)
  have T_18 := hide (T_17.out.below be17)
  have Gg_18 := hide (Gg_17.out.below be17)
  have U_18 := hide (U_17.out.below be17)
  have Hh_18 := hide (Hh_17.out.below be17)
  have Q_18 := hide (Q_17.out.below be17)
  have B_18 := hide (below_next B_17.out be17)
  clear PA_17 Dd_17 T_17 Gg_17 U_17 Hh_17 Q_17 B_17 be17
  obtain ⟨⟨Ut0, Ut1, Ut2, Ut3⟩, -⟩ := U_18.out
  go_wp2_with fail
  clear Ut0 Ut1 Ut2 Ut3
  refine (heldLogResult_any q k w6a1 w6a2 w6c1 w6c2 S'.length L'.length e17 (Gg_18.out.rd (marks_length _ _).symm (marks_length _ _).symm).1 (Gg_18.out.rd (marks_length _ _).symm (marks_length _ _).symm).2 hS' hL').mono ?_
  rintro e h18 ⟨rfl, bh18⟩
  have z_19 : e17.heap.size ≤ h18.heap.size := bh18.size
  have PA_19 := hide (PA_18.out.below bh18)
  have Dd_19 := hide (Dd_18.out.below bh18)
  have T_19 := hide (T_18.out.below bh18)
  have Gg_19 := hide (Gg_18.out.below bh18)
  have U_19 := hide (U_18.out.below bh18)
  have Hh_19 := hide (Hh_18.out.below bh18)
  have Q_19 := hide (Q_18.out.below bh18)
  have B_19 := hide (below_next B_18.out bh18)
  clear PA_18 Dd_18 T_18 Gg_18 U_18 Hh_18 Q_18 B_18 bh18
  go_wp2_with fail
  go_ret
  exact ⟨rfl, B_19.out⟩
set_option maxRecDepth 100000 in
set_option maxHeartbeats 1600000 in
theorem walk (w : World) (sa : Option Addr) (sc : Nat) (S : List Int) (la : Option Addr) (lc : Nat) (L : List Int) (hr : Reads .u8 w sa S ∧ Reads .u8 w la L) (hu : U8 S ∧ U8 L) (ms : S.length ≤ maxLen) (ml : L.length ≤ maxLen) (d : Int) (hd : (Lit.int .i64 d).wf = true) :
    Calls Try.prog 3 #[.agg #[.slice sa S.length sc, .slice la L.length lc], .int .i64 d] w fun e w' => e = .returned (.bool true) ∧ Below w.heap.size w w' := by
  unfold maxLen at ms ml
  by_cases hfit : (S.length : Int) + L.length ≤ 1048576
  · by_cases h0 : logF S L = 0
    · have hsz := (logF_zero h0).1
      by_cases hk : d < 0 ∨ (L.length : Int) < d
      · exact core w sa sc S la lc L hr.1 hr.2 hu.1 hu.2 hfit d 3 0 [] [] (by simp) (by simp) (fun x1 x2 u _ h => specCrashLog_range _ _ _ _ S L d u h h0 hk) (fun x1 x2 u _ h => implCrashLog_range _ _ _ _ S L d u h h0 hk)
      · obtain ⟨kk, rfl⟩ : ∃ kk : Nat, d = kk := ⟨d.toNat, by omega⟩
        have hz := end_le (S ++ L.take kk)
        exact core w sa sc S la lc L hr.1 hr.2 hu.1 hu.2 hfit kk 0 _ (crashZ S L kk) [] (by unfold crashZ; rw [flatL_len]; rw [List.length_append, List.length_take] at hz; omega) (by simp) (fun x1 x2 u _ h => specCrashLog_ok _ _ _ _ S L kk u h h0 (by omega)) (fun x1 x2 u _ h => implCrashLog_ok _ _ _ _ S L kk u h h0 (by omega))
    · exact core w sa sc S la lc L hr.1 hr.2 hu.1 hu.2 hfit d (logF S L) 0 [] [] (by simp) (by simp) (fun x1 x2 u _ h => specCrashLog_bad _ _ _ _ S L d u h h0) (fun x1 x2 u _ h => implCrashLog_bad _ _ _ _ S L d u h h0)
  · have HN := hide (szLog_not sa S.length sc la L.length lc (w.alloc (.cells #[.slice sa S.length sc, .slice la L.length lc] 24)) (by omega) (by omega) hfit)
    have B0 := hide (below_alloc w (.cells #[.slice sa S.length sc, .slice la L.length lc] 24))
    clear hr hu hfit
    go_enter Try.func3, Try.ntmps3
    go_wp2_with fail
    refine HN.out.mono ?_
    rintro e w1 ⟨rfl, hb1⟩
    have B1 := hide (below_next B0.out hb1)
    clear hb1
    go_wp2_with fail
    go_ret
    exact ⟨rfl, B1.out⟩
set_option maxRecDepth 100000 in
set_option maxHeartbeats 800000 in
theorem lifted (os : Os) (started : os.Started) (H : Type) (enc : TypeId × Value → H) :
    ReturnsInHanded {} Try.checked os 3 .any (Rows.fnExactCrashLogSpec.pre6 enc Try.prog Try.f3 Rows.fnExactCrashLogRow.domain false) (Rows.fnExactCrashLogSpec.post enc Try.prog Try.f3 false true false false) := by
  refine returnsInHanded_of_change (C := Try.checked) own started (by kernel_rfl) Try.func3
    (ChangeSpec.witness6 (enc := enc) (C := Try.checked) false ⟨#[], #[.agg #[.slice none 0 0, .slice none 0 0], .int .i64 0], []⟩ 8 (by kernel_rfl) (by kernel_rfl) (by kernel_rfl) (by kernel_rfl)) ?_
  intro W base args ds gs before hval0 hW hcnd _
  have hval : ∀ (j : Nat) t v, Try.f3.params[j]? = some t → args[j]? = some v → Value.okWide Try.prog W .any base t v := hval0
  have hW' := hW
  obtain ⟨p, q, hA0, hV, rfl, hfz, hnd⟩ := hW
  have hA : DataW.TrodAll enc Try.prog W 0 (fun _ => true) true Try.f3.params.toList args.toList ds p := hA0
  rw [Try.params3] at hA hval
  obtain ⟨v0, vs0, d0, ds0, p0, q0, hargs0, rfl, rfl, h0, r0⟩ := trodAll_cons hA
  obtain ⟨v1, vs1, d1, ds1, p1, q1, hargs1, rfl, rfl, h1, r1⟩ := trodAll_cons r0
  obtain ⟨rfl, rfl, rfl⟩ := trodAll_nil r1
  obtain rfl : args = #[v0, v1] := by cases args; simp_all
  obtain ⟨rfl, rfl⟩ := trodVars_none hV
  obtain ⟨cs0, rfl, -⟩ := okWide_struct Try.underlying24 (hval 0 24 v0 rfl rfl)
  have k0 := h0
  have lt0 : ∀ x ∈ p0, x.block < W.heap.size := by obtain ⟨m, hm⟩ := k0; exact DataW.trod_lt m _ _ _ hm
  obtain ⟨fuel0, hf0⟩ := h0
  obtain ⟨sa0, sc0, S0, la0, lc0, L0, hcs0, rd0, u0, ms0, ml0⟩ := log_of_trod (by simpa [Value.cells] using hf0)
  obtain rfl : cs0 = #[.slice sa0 S0.length sc0, .slice la0 L0.length lc0] := by cases cs0; simp_all
  obtain ⟨a1, rfl, rfl, rfl, w1⟩ := open_int Try.underlying2 (hval 1 2 v1 rfl rfl) h1
  clear hA0 hval0
  refine (walk W sa0 sc0 S0 la0 lc0 L0 rd0 u0 ms0 ml0 a1 w1).mono fun e W' ⟨he, bel⟩ => ?_
  subst he
  exact ⟨_, rfl, _, _, _, [], _, [], hW', trodAll_mk1 (shut_bool Try.underlying4 _), (trodAll_cons_mk (Below.trod laidOut (by kernel_rfl) (of_decide_eq_true (by kernel_rfl)) k0 bel lt0) (trodAll_cons_mk (shut_int Try.underlying2 w1) trodAll_mk0)), rfl, bel.frame _, fun h => by cases h⟩

theorem over : Rows.fnExactCrashLogRow.holds Try.pinned (OpenSpec.ofChange Rows.fnExactCrashLogSpec) :=
  OpenClaim.holds_of_wide 3 Try.f3 rfl rfl rfl rfl rfl rfl rfl ⟨rfl, rfl, rfl, rfl, rfl⟩ rfl rfl rfl rfl rfl (by kernel_rfl) Try.func3 (by kernel_rfl)
    (of_decide_eq_true (by kernel_rfl)) (by unfold Func.isWrapper; first | (rw [if_pos (by decide +kernel)]; kernel_rfl) | (rw [if_neg (by decide +kernel)]; exact ⟨rfl, rfl⟩))
    (fun os started H enc _ => lifted os started H enc)
end Go.Proofs.Ytpikgmbjgfdcfab.crashLog
namespace Go.Proofs.Ytpikgmbjgfdcfab
theorem fnExactCrashLog_holds : Rows.FnExactCrashLogSaid := crashLog.over
#print axioms fnExactCrashLog_holds
end Go.Proofs.Ytpikgmbjgfdcfab

